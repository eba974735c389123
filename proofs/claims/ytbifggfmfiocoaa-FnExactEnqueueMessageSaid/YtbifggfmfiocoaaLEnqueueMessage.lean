/- The law function of FnExactEnqueueMessage returns true and leaves what was there. Condition: the slices among the arguments are slices that came in. -/
import Derived.Test.YtbifggfmfiocoaaQlx
import Derived.Deep.RegionHeld3
namespace Go.Proofs.Ytbifggfmfiocoaa.xExactEnqueueMessage
open Go.RowKit sl harn bx mrw mq
set_option linter.unusedVariables false
set_option maxRecDepth 100000 in
set_option maxHeartbeats 4000000 in
theorem walk (ms : List Msg) (d : Int) (A : Option Addr) (n cap : Nat) (mx : Msg) (Am : Option Addr) (nm cm : Nat) (w : World) (row0 : Rq msg w 0 w.heap.size A n cap ms) (rowx : Rd .u8 w 0 w.heap.size Am nm cm mx.2.2.2) :
    Calls Try.prog 7 #[qV A n cap d, mV mx Am nm cm] w fun e w' => e = .returned (.bool true) ∧ Below w.heap.size w w' := by
  have R0 := Lib.hid row0
  have HLN := Lib.hid row0.len
  have hn0 : n ≤ cap ∧ cap ≤ 9223372036854775807 := row0.cap_
  have R1 := Lib.hid rowx
  have HXL := Lib.hid rowx.len
  have hx0 : nm ≤ cm ∧ cm ≤ 9223372036854775807 := rowx.cap_
  clear row0 rowx
  have B0 := Lib.hid (Below.refl w.heap.size w)
  go_enter Try.func7, Try.ntmps7
  go_wp2_with fail
  obtain ⟨W0, hW0⟩ : ∃ y, (w.alloc (.cells #[.slice A n cap, .int .i64 d] 50)).alloc (.cells #[.int .i64 mx.1, .int .i64 mx.2.1, .int .i64 mx.2.2.1, .slice Am nm cm] 44) = y := ⟨_, rfl⟩
  rw [hW0]
  have hb0 : Below w.heap.size w W0 := by rw [← hW0]; exact (bx.below_box w _).alloc (by simp) _
  have LB0 := Lib.hid (show bx.Bx 50 W0 w.heap.size #[.slice A n cap, .int .i64 d] by rw [← hW0]; exact (bx.Bx.made _ w _).below (bx.below_box _ _))
  have LB1 := Lib.hid (show bx.Bx 44 W0 (w.heap.size + 1) #[.int .i64 mx.1, .int .i64 mx.2.1, .int .i64 mx.2.2.1, .slice Am nm cm] by rw [← hW0]; have hh := bx.Bx.made 44 (w.alloc (.cells #[.slice A n cap, .int .i64 d] 50)) #[.int .i64 mx.1, .int .i64 mx.2.1, .int .i64 mx.2.2.1, .slice Am nm cm]; simpa using hh)
  have S00 := Lib.hid (show w.heap.size + 2 ≤ W0.heap.size by rw [← hW0]; simp)
  clear hW0
  have R0 := Lib.hid (R0.out.below hb0)
  have R1 := Lib.hid (R1.out.below hb0)
  have B0 := Lib.hid hb0
  clear hb0
  (with_reducible refine (szQue ms d A n cap _ _ 1048576 (by omega) _ R0.out).mono ?_)
  rintro e w1 ⟨r0, rfl, hr, hb⟩
  rcases hr with ⟨hr1, hlt⟩ | ⟨hrl, hle⟩
  · subst hr1
    go_wp2_with fail
    go_ret
    exact ⟨rfl, B0.out.trans (hb.mono B0.out.size)⟩
  have hng0 : ¬ r0 < 0 := by omega
  have S3 := Lib.hid (hb.size)
  have B2 := Lib.hid (B0.out.trans (hb.mono B0.out.size))
  clear B0
  have F4 := Lib.hid (LB0.out.below hb)
  clear LB0
  have F5 := Lib.hid (R0.out.below hb)
  clear R0
  have F6 := Lib.hid (LB1.out.below hb)
  clear LB1
  have F7 := Lib.hid (R1.out.below hb)
  clear R1
  clear hb
  have hq0 : n + blk ms ≤ 1048576 := by omega
  have HR0 := Lib.hid (show 0 ≤ r0 ∧ r0 ≤ 1048576 by omega)
  clear hrl hle
  have cc0_0 : w1.cell? ⟨w.heap.size + 1, 0, none⟩ = some (.int .i64 mx.1) := F6.out.cell 0
  have cc0_1 : w1.cell? ⟨w.heap.size + 1, 1, none⟩ = some (.int .i64 mx.2.1) := F6.out.cell 1
  have cc0_2 : w1.cell? ⟨w.heap.size + 1, 2, none⟩ = some (.int .i64 mx.2.2.1) := F6.out.cell 2
  have cc0_3 : w1.cell? ⟨w.heap.size + 1, 3, none⟩ = some (.slice Am nm cm) := F6.out.cell 3
  go_wp2_with fail
  clear cc0_0 cc0_1 cc0_2 cc0_3
  (with_reducible refine (szMsg mx Am nm cm r0 HR0.out (by omega) _).mono ?_)
  rintro e w8 ⟨r1, rfl, hr, hb⟩
  rcases hr with ⟨hr1, hlt⟩ | ⟨hrl, hle⟩
  · subst hr1
    go_wp2_with fail
    go_ret
    exact ⟨rfl, B2.out.trans (hb.mono B2.out.size)⟩
  have hng1 : ¬ r1 < 0 := by omega
  have S10 := Lib.hid (hb.size)
  have B9 := Lib.hid (B2.out.trans (hb.mono B2.out.size))
  clear B2
  have F11 := Lib.hid (F4.out.below hb)
  clear F4
  have F12 := Lib.hid (F5.out.below hb)
  clear F5
  have F13 := Lib.hid (F6.out.below hb)
  clear F6
  have F14 := Lib.hid (F7.out.below hb)
  clear F7
  clear hb
  have h9 := HR0.out
  have hq1 : nm ≤ 1048576 := by omega
  have HR1 := Lib.hid (show 0 ≤ r1 ∧ r1 ≤ 1048576 by omega)
  clear hrl hle h9
  have HN := Lib.hid (show n ≤ 67108864 by omega)
  have BD0 := Lib.hid (bd_of (List.Sublist.refl ms) (by rw [HLN.out]; omega))
  have HBD := Lib.hid BD0.out.1
  have HQ0 := Lib.hid hq0
  clear hq0
  have HXN := Lib.hid (show nm ≤ 67108864 by omega)
  have HQ1 := Lib.hid hq1
  clear hq1
  obtain ⟨⟨l1, d1⟩, hvb⟩ : ∃ p : List Msg × Int, enq ms d mx = p := ⟨_, rfl⟩
  have VQ := Lib.hid hvb
  have BD1 := Lib.hid (show Bd l1 from bd_of (ms := ms ++ [mx]) (by have h9 := enq_sub ms d mx; rw [hvb] at h9; exact h9) (by have h8 := HQ0.out; have h7 := HQ1.out; have h6 := HXL.out; rw [blk_snoc, List.length_append, HLN.out, List.length_singleton]; omega))
  clear hvb
  go_wp2_with fail
  have hbd : Below w8.heap.size w8 w8.drew := own.below_drew (Below.refl _ _)
  have S16 := Lib.hid (hbd.size)
  have B15 := Lib.hid (B9.out.trans (hbd.mono B9.out.size))
  clear B9
  have F17 := Lib.hid (F11.out.below hbd)
  clear F11
  have F18 := Lib.hid (F12.out.below hbd)
  clear F12
  have F19 := Lib.hid (F13.out.below hbd)
  clear F13
  have F20 := Lib.hid (F14.out.below hbd)
  clear F14
  clear hbd
  refine reg.region_tail reg.Bel 6 92 [some [], some [(0, 24)], some [], some [(2, 26)], some [(1, 25), (3, 27)], some [], none] [(0, 24), (1, 25), (2, 26), (3, 27), (4, 28), (5, 6)]
    (fun w' => Below w.heap.size w w' ∧ w8.drew.heap.size ≤ w'.heap.size ∧ bx.Bx 50 w' (w.heap.size) #[.slice A n cap, .int .i64 d] ∧ Rq msg w' (0) (w.heap.size) A n cap ms ∧ bx.Bx 44 w' (w.heap.size + 1) #[.int .i64 mx.1, .int .i64 mx.2.1, .int .i64 mx.2.2.1, .slice Am nm cm] ∧ Rd .u8 w' (0) (w.heap.size) Am nm cm mx.2.2.2 ∧ True)
    (reg.rl [reg.is (.agg #[.slice A n cap, .int .i64 d]), qrow ms d, reg.is (.agg #[.int .i64 mx.1, .int .i64 mx.2.1, .int .i64 mx.2.2.1, .slice Am nm cm]), stw.rowv .u8 mx.2.2.2 (fun A n c => mV mx A n c), qrow l1 d1, stw.mk 26 (w.heap.size + 1) #[.slice none 0 0, .int .i64 0], reg.free])
    (by kernel_rfl) rfl (by kernel_rfl) (by kernel_rfl) rfl
    (fun w1 w2 hc hb => ⟨hc.1.trans (hb.mono hc.1.size), Nat.le_trans hc.2.1 hb.size, hc.2.2.1.below hb, hc.2.2.2.1.below hb, hc.2.2.2.2.1.below hb, hc.2.2.2.2.2.1.below hb, trivial⟩) (reg.rl_keep _) (⟨B15.out, Nat.le_refl _, F17.out, F18.out, F19.out, F20.out, trivial⟩) (by kernel_rfl) ⟨?_, ?_, ?_, ?_, ?_, ?_, trivial⟩ ?_
  · refine fun w8 hc  K hK => ?_
    (try simp only [Act.put, List.setIfInBounds_toArray, List.set_cons_zero, List.set_cons_succ])
    rw [if_pos (by rfl)]
    refine stw.wp_load_bx 50 _ rfl (w.heap.size) rfl 50 _ hc.2.2.1 Try.underlying50 rfl szLQ ?_
    exact hK _ _ rfl (Below.refl _ _)
  · refine fun w8 hc v0 h0 K hK => ?_
    obtain rfl : v0 = .agg #[.slice A n cap, .int .i64 d] := h0
    (try simp only [Act.put, List.setIfInBounds_toArray, List.set_cons_zero, List.set_cons_succ])
    go_simp
    (with_reducible refine (toQue ms d A n cap _ _ HN.out HBD.out _ hc.2.2.2.1).mono ?_)
    rintro e w3 hp
    obtain ⟨A2, m2, c2, es2, rfl, g9, ho, hb⟩ := q_parts2 hp
    exact hK _ _ ⟨A2, m2, c2, _, _, es2, rfl, g9, ho⟩ hb
  · refine fun w8 hc  K hK => ?_
    (try simp only [Act.put, List.setIfInBounds_toArray, List.set_cons_zero, List.set_cons_succ])
    rw [if_pos (by rfl)]
    refine stw.wp_load_bx 44 _ rfl (w.heap.size + 1) rfl 44 _ hc.2.2.2.2.1 Try.underlying44 rfl szLM ?_
    exact hK _ _ rfl (Below.refl _ _)
  · refine fun w8 hc v2 h2 K hK => ?_
    obtain rfl : v2 = .agg #[.int .i64 mx.1, .int .i64 mx.2.1, .int .i64 mx.2.2.1, .slice Am nm cm] := h2
    (try simp only [Act.put, List.setIfInBounds_toArray, List.set_cons_zero, List.set_cons_succ])
    go_simp
    (with_reducible refine (toMsg mx Am nm cm _ _ _ hc.2.2.2.2.2.1 HXN.out).mono ?_)
    rintro e w3 hp
    obtain ⟨A2, m2, c2, rfl, ho, hb⟩ := x_parts hp
    exact hK _ _ ⟨A2, m2, c2, _, _, rfl, ho.rd⟩ hb
  · refine fun w8 hc v1 h1 v3 h3 K hK => ?_
    obtain ⟨A2_, n2_, c2_, lo2_, hi2_, es2_, rfl, hE2, hO2⟩ := h1
    obtain rfl : n = n2_ := by have h1 := hO2.len; have h2 := congrArg List.length hE2; have h3 := HLN.out; simp at h2; omega
    obtain ⟨A3_, n3_, c3_, lo3_, hi3_, rfl, hR3⟩ := h3
    obtain rfl : nm = n3_ := by have h1 := hR3.len; have h2 := HXL.out; omega
    (try simp only [Act.put, List.setIfInBounds_toArray, List.set_cons_zero, List.set_cons_succ])
    go_simp
    (with_reducible refine (specEn mx A3_ nm c3_ _ _ ms d A2_ n c2_ _ _ HN.out HBD.out _ (rq_of hE2 hO2) hR3 HXN.out).mono ?_)
    rw [VQ.out]
    rintro e w3 hp
    obtain ⟨A2, m2, c2, es2, rfl, g9, ho, hb⟩ := q_parts2 hp
    exact hK _ _ ⟨A2, m2, c2, _, _, es2, rfl, g9, ho⟩ hb
  · refine fun w8 hc  K hK => ?_
    (try simp only [Act.put, List.setIfInBounds_toArray, List.set_cons_zero, List.set_cons_succ])
    rw [if_pos (by rfl)]
    have hlt := hc.2.2.2.2.1.lt
    go_simp
    exact hK (.pointer (some ⟨w8.heap.size, 0, none⟩)) _ ⟨w8.heap.size, rfl, hlt, bx.Bx.made _ _ _⟩ (bx.below_box _ _)
  refine fun w21 hc v0 h0 v1 h1 v2 h2 v3 h3 v4 h4 v5 h5 => ?_
  obtain rfl : v0 = .agg #[.slice A n cap, .int .i64 d] := h0
  obtain ⟨A2_, n2_, c2_, lo2_, hi2_, es2_, rfl, hE2, hO2⟩ := h1
  obtain rfl : n = n2_ := by have h1 := hO2.len; have h2 := congrArg List.length hE2; have h3 := HLN.out; simp at h2; omega
  obtain rfl : v2 = .agg #[.int .i64 mx.1, .int .i64 mx.2.1, .int .i64 mx.2.2.1, .slice Am nm cm] := h2
  obtain ⟨A3_, n3_, c3_, lo3_, hi3_, rfl, hR3⟩ := h3
  obtain rfl : nm = n3_ := by have h1 := hR3.len; have h2 := HXL.out; omega
  obtain ⟨A4_21, n4_21, c4_21, lo4_21, hi4_21, es4_21, rfl, hE4, hO4⟩ := h4
  obtain ⟨qN21, rfl, hq, hP⟩ : ∃ q, v5 = .pointer (some ⟨q, 0, none⟩) ∧ w.heap.size + 1 < q ∧ bx.Bx 26 w21 q #[.slice none 0 0, .int .i64 0] := h5
  (try simp only [reg.Obs])
  (try simp only [Act.put, List.setIfInBounds_toArray, List.set_cons_zero, List.set_cons_succ])
  simp only [List.drop_succ_cons, List.drop_zero]
  have B22 := Lib.hid hc.1
  have S23 := Lib.hid hc.2.1
  have F24 := Lib.hid hc.2.2.1
  have F25 := Lib.hid hc.2.2.2.1
  have F26 := Lib.hid hc.2.2.2.2.1
  have F27 := Lib.hid hc.2.2.2.2.2.1
  have S32 := Lib.hid hO4.hi_
  have S33 := Lib.hid hP.lt
  have HE28 := Lib.hid hE4
  have F29 := Lib.hid hO4
  have HQ30 := Lib.hid hq
  have HP31 := Lib.hid hP
  clear hE4 hO4 hq hP hE2 hO2 hR3 hc B15 F17 F18 F19 F20
  refine stw.list_store rfl 26 _ _ rfl qN21 #[.slice A4_21 n4_21 c4_21, .int .i64 d1] rfl rfl 26 _ HP31.out rfl szQ (oneQ _ _ _ _) ?_
  intro w34 hz
  (try simp only [Act.put])
  have bsz := hz.below.size
  have B35 := Lib.hid (hz.on B22.out (by have s0 := S00.out; have s1 := S3.out; have s2 := S10.out; have s3 := S16.out; have s4 := S23.out; have s5 := S32.out; have s6 := S33.out; have s7 := HQ30.out; omega))
  clear B22
  have S36 := Lib.hid bsz
  have F37 := Lib.hid (hz.keep F24.out (by have s0 := S00.out; have s1 := S3.out; have s2 := S10.out; have s3 := S16.out; have s4 := S23.out; have s5 := S32.out; have s6 := S33.out; have s7 := HQ30.out; omega))
  clear F24
  have F38 := Lib.hid (F25.out.same bsz (fun k h1 h2 => hz.other k (by have s0 := S00.out; have s1 := S3.out; have s2 := S10.out; have s3 := S16.out; have s4 := S23.out; have s5 := S32.out; have s6 := S33.out; have s7 := HQ30.out; omega)))
  clear F25
  have F39 := Lib.hid (hz.keep F26.out (by have s0 := S00.out; have s1 := S3.out; have s2 := S10.out; have s3 := S16.out; have s4 := S23.out; have s5 := S32.out; have s6 := S33.out; have s7 := HQ30.out; omega))
  clear F26
  have F40 := Lib.hid (F27.out.same bsz (fun k h1 h2 => hz.other k (by have s0 := S00.out; have s1 := S3.out; have s2 := S10.out; have s3 := S16.out; have s4 := S23.out; have s5 := S32.out; have s6 := S33.out; have s7 := HQ30.out; omega)))
  clear F27
  have F41 := Lib.hid (rgp.oe_set F29.out HP31.out (by decide) (by decide) bsz (fun k hk => hz.other k hk))
  clear F29
  have X42 := Lib.hid hz.box
  clear bsz hz HP31
  have cc0_0 : w34.cell? ⟨w.heap.size, 0, none⟩ = some (.slice A n cap) := F37.out.cell 0
  have cc0_1 : w34.cell? ⟨w.heap.size, 1, none⟩ = some (.int .i64 d) := F37.out.cell 1
  go_wp2_with fail
  clear cc0_0 cc0_1
  (with_reducible refine (toQue ms d A n cap _ _ HN.out HBD.out _ F38.out).mono ?_)
  rintro e w43 hp
  obtain ⟨A44, m45, c46, es47, rfl, g9, ho, hb⟩ := q_parts2 hp
  clear hp
  obtain rfl : n = m45 := (by have h1 := ho.len; have h2 := congrArg List.length g9; have h3 := HLN.out; simp at h2; omega)
  have HE48 := Lib.hid g9
  clear g9
  have F49 := Lib.hid ho
  clear ho
  have S51 := Lib.hid (hb.size)
  have B50 := Lib.hid (B35.out.trans (hb.mono B35.out.size))
  clear B35
  have F52 := Lib.hid (F37.out.below hb)
  clear F37
  have F53 := Lib.hid (F38.out.below hb)
  clear F38
  have F54 := Lib.hid (F39.out.below hb)
  clear F39
  have F55 := Lib.hid (F40.out.below hb)
  clear F40
  have F56 := Lib.hid (F41.out.below hb)
  clear F41
  have F57 := Lib.hid (X42.out.below hb)
  clear X42
  clear hb
  obtain ⟨V58, hV58⟩ : ∃ x, x = w43.alloc (.cells #[.slice A44 n c46, .int .i64 d] 26) := ⟨_, rfl⟩
  have hbV58 : Below w43.heap.size w43 V58 := by rw [hV58]; exact bx.below_box _ _
  have S59 := Lib.hid (show w43.heap.size + 1 ≤ V58.heap.size by rw [hV58]; simp)
  have S61 := Lib.hid (hbV58.size)
  have B60 := Lib.hid (B50.out.trans (hbV58.mono B50.out.size))
  clear B50
  have F62 := Lib.hid (F52.out.below hbV58)
  clear F52
  have F63 := Lib.hid (F53.out.below hbV58)
  clear F53
  have F64 := Lib.hid (F54.out.below hbV58)
  clear F54
  have F65 := Lib.hid (F55.out.below hbV58)
  clear F55
  have F66 := Lib.hid (F56.out.below hbV58)
  clear F56
  have F67 := Lib.hid (F57.out.below hbV58)
  clear F57
  have F68 := Lib.hid (F49.out.below hbV58)
  clear F49
  have X69 := Lib.hid (show bx.Bx 26 V58 w43.heap.size #[.slice A44 n c46, .int .i64 d] by rw [hV58]; exact bx.Bx.made _ _ _)
  clear hbV58
  have cc0_0 : (w43.alloc (.cells #[.slice A44 n c46, .int .i64 d] 26)).cell? ⟨w.heap.size + 1, 0, none⟩ = some (.int .i64 mx.1) := by rw [← hV58]; exact F64.out.cell 0
  have cc0_1 : (w43.alloc (.cells #[.slice A44 n c46, .int .i64 d] 26)).cell? ⟨w.heap.size + 1, 1, none⟩ = some (.int .i64 mx.2.1) := by rw [← hV58]; exact F64.out.cell 1
  have cc0_2 : (w43.alloc (.cells #[.slice A44 n c46, .int .i64 d] 26)).cell? ⟨w.heap.size + 1, 2, none⟩ = some (.int .i64 mx.2.2.1) := by rw [← hV58]; exact F64.out.cell 2
  have cc0_3 : (w43.alloc (.cells #[.slice A44 n c46, .int .i64 d] 26)).cell? ⟨w.heap.size + 1, 3, none⟩ = some (.slice Am nm cm) := by rw [← hV58]; exact F64.out.cell 3
  go_wp2_with fail
  rw [← hV58]
  clear hV58 cc0_0 cc0_1 cc0_2 cc0_3
  (with_reducible refine (toMsg mx Am nm cm _ _ _ F65.out HXN.out).mono ?_)
  rintro e w70 hp
  obtain ⟨A71, m72, c73, rfl, ho, hb⟩ := x_parts hp
  clear hp
  obtain rfl : nm = m72 := (by have h1 := ho.len; have h2 := HXL.out; omega)
  have F74 := Lib.hid ho
  clear ho
  have S76 := Lib.hid (hb.size)
  have B75 := Lib.hid (B60.out.trans (hb.mono B60.out.size))
  clear B60
  have F77 := Lib.hid (F62.out.below hb)
  clear F62
  have F78 := Lib.hid (F63.out.below hb)
  clear F63
  have F79 := Lib.hid (F64.out.below hb)
  clear F64
  have F80 := Lib.hid (F65.out.below hb)
  clear F65
  have F81 := Lib.hid (F66.out.below hb)
  clear F66
  have F82 := Lib.hid (F67.out.below hb)
  clear F67
  have F83 := Lib.hid (F68.out.below hb)
  clear F68
  have F84 := Lib.hid (X69.out.below hb)
  clear X69
  clear hb
  obtain ⟨V85, hV85⟩ : ∃ x, x = w70.alloc (.cells #[.int .i64 mx.1, .int .i64 mx.2.1, .int .i64 mx.2.2.1, .slice A71 nm c73] 28) := ⟨_, rfl⟩
  have hbV85 : Below w70.heap.size w70 V85 := by rw [hV85]; exact bx.below_box _ _
  have S86 := Lib.hid (show w70.heap.size + 1 ≤ V85.heap.size by rw [hV85]; simp)
  have S88 := Lib.hid (hbV85.size)
  have B87 := Lib.hid (B75.out.trans (hbV85.mono B75.out.size))
  clear B75
  have F89 := Lib.hid (F77.out.below hbV85)
  clear F77
  have F90 := Lib.hid (F78.out.below hbV85)
  clear F78
  have F91 := Lib.hid (F79.out.below hbV85)
  clear F79
  have F92 := Lib.hid (F80.out.below hbV85)
  clear F80
  have F93 := Lib.hid (F81.out.below hbV85)
  clear F81
  have F94 := Lib.hid (F82.out.below hbV85)
  clear F82
  have F95 := Lib.hid (F83.out.below hbV85)
  clear F83
  have F96 := Lib.hid (F84.out.below hbV85)
  clear F84
  have F97 := Lib.hid (F74.out.below hbV85)
  clear F74
  have X98 := Lib.hid (show bx.Bx 28 V85 w70.heap.size #[.int .i64 mx.1, .int .i64 mx.2.1, .int .i64 mx.2.2.1, .slice A71 nm c73] by rw [hV85]; exact bx.Bx.made _ _ _)
  clear hbV85
  have cc0_0 : (w70.alloc (.cells #[.int .i64 mx.1, .int .i64 mx.2.1, .int .i64 mx.2.2.1, .slice A71 nm c73] 28)).cell? ⟨w43.heap.size, 0, none⟩ = some (.slice A44 n c46) := by rw [← hV85]; exact F96.out.cell 0
  have cc0_1 : (w70.alloc (.cells #[.int .i64 mx.1, .int .i64 mx.2.1, .int .i64 mx.2.2.1, .slice A71 nm c73] 28)).cell? ⟨w43.heap.size, 1, none⟩ = some (.int .i64 d) := by rw [← hV85]; exact F96.out.cell 1
  have cc1_0 : (w70.alloc (.cells #[.int .i64 mx.1, .int .i64 mx.2.1, .int .i64 mx.2.2.1, .slice A71 nm c73] 28)).cell? ⟨w70.heap.size, 0, none⟩ = some (.int .i64 mx.1) := by rw [← hV85]; exact X98.out.cell 0
  have cc1_1 : (w70.alloc (.cells #[.int .i64 mx.1, .int .i64 mx.2.1, .int .i64 mx.2.2.1, .slice A71 nm c73] 28)).cell? ⟨w70.heap.size, 1, none⟩ = some (.int .i64 mx.2.1) := by rw [← hV85]; exact X98.out.cell 1
  have cc1_2 : (w70.alloc (.cells #[.int .i64 mx.1, .int .i64 mx.2.1, .int .i64 mx.2.2.1, .slice A71 nm c73] 28)).cell? ⟨w70.heap.size, 2, none⟩ = some (.int .i64 mx.2.2.1) := by rw [← hV85]; exact X98.out.cell 2
  have cc1_3 : (w70.alloc (.cells #[.int .i64 mx.1, .int .i64 mx.2.1, .int .i64 mx.2.2.1, .slice A71 nm c73] 28)).cell? ⟨w70.heap.size, 3, none⟩ = some (.slice A71 nm c73) := by rw [← hV85]; exact X98.out.cell 3
  go_wp2_with fail
  rw [← hV85]
  clear hV85 cc0_0 cc0_1 cc1_0 cc1_1 cc1_2 cc1_3
  (with_reducible refine (implEn mx A71 nm c73 _ _ ms d A44 n c46 _ _ HN.out HBD.out _ (rq_of HE48.out F95.out) F97.out.rd HXN.out).mono ?_)
  rw [VQ.out]
  rintro e w99 hp
  obtain ⟨A100, m101, c102, es103, rfl, g9, ho, hb⟩ := q_parts2 hp
  clear hp
  have HE104 := Lib.hid g9
  clear g9
  have F105 := Lib.hid ho
  clear ho
  have S107 := Lib.hid (hb.size)
  have B106 := Lib.hid (B87.out.trans (hb.mono B87.out.size))
  clear B87
  have F108 := Lib.hid (F89.out.below hb)
  clear F89
  have F109 := Lib.hid (F90.out.below hb)
  clear F90
  have F110 := Lib.hid (F91.out.below hb)
  clear F91
  have F111 := Lib.hid (F92.out.below hb)
  clear F92
  have F112 := Lib.hid (F93.out.below hb)
  clear F93
  have F113 := Lib.hid (F94.out.below hb)
  clear F94
  have F114 := Lib.hid (F95.out.below hb)
  clear F95
  have F115 := Lib.hid (F96.out.below hb)
  clear F96
  have F116 := Lib.hid (F97.out.below hb)
  clear F97
  have F117 := Lib.hid (X98.out.below hb)
  clear X98
  clear hb
  obtain ⟨V118, hV118⟩ : ∃ x, x = w99.alloc (.cells #[.slice A100 m101 c102, .int .i64 d1] 26) := ⟨_, rfl⟩
  have hbV118 : Below w99.heap.size w99 V118 := by rw [hV118]; exact bx.below_box _ _
  have S119 := Lib.hid (show w99.heap.size + 1 ≤ V118.heap.size by rw [hV118]; simp)
  have S121 := Lib.hid (hbV118.size)
  have B120 := Lib.hid (B106.out.trans (hbV118.mono B106.out.size))
  clear B106
  have F122 := Lib.hid (F108.out.below hbV118)
  clear F108
  have F123 := Lib.hid (F109.out.below hbV118)
  clear F109
  have F124 := Lib.hid (F110.out.below hbV118)
  clear F110
  have F125 := Lib.hid (F111.out.below hbV118)
  clear F111
  have F126 := Lib.hid (F112.out.below hbV118)
  clear F112
  have F127 := Lib.hid (F113.out.below hbV118)
  clear F113
  have F128 := Lib.hid (F114.out.below hbV118)
  clear F114
  have F129 := Lib.hid (F115.out.below hbV118)
  clear F115
  have F130 := Lib.hid (F116.out.below hbV118)
  clear F116
  have F131 := Lib.hid (F117.out.below hbV118)
  clear F117
  have F132 := Lib.hid (F105.out.below hbV118)
  clear F105
  have X133 := Lib.hid (show bx.Bx 26 V118 w99.heap.size #[.slice A100 m101 c102, .int .i64 d1] by rw [hV118]; exact bx.Bx.made _ _ _)
  clear hbV118
  have cc0_0 : (w99.alloc (.cells #[.slice A100 m101 c102, .int .i64 d1] 26)).cell? ⟨w99.heap.size, 0, none⟩ = some (.slice A100 m101 c102) := by rw [← hV118]; exact X133.out.cell 0
  have cc0_1 : (w99.alloc (.cells #[.slice A100 m101 c102, .int .i64 d1] 26)).cell? ⟨w99.heap.size, 1, none⟩ = some (.int .i64 d1) := by rw [← hV118]; exact X133.out.cell 1
  have cc1_0 : (w99.alloc (.cells #[.slice A100 m101 c102, .int .i64 d1] 26)).cell? ⟨qN21, 0, none⟩ = some (.slice A4_21 n4_21 c4_21) := by rw [← hV118]; exact F127.out.cell 0
  have cc1_1 : (w99.alloc (.cells #[.slice A100 m101 c102, .int .i64 d1] 26)).cell? ⟨qN21, 1, none⟩ = some (.int .i64 d1) := by rw [← hV118]; exact F127.out.cell 1
  go_wp2_with fail
  rw [← hV118]
  clear hV118 cc0_0 cc0_1 cc1_0 cc1_1
  (with_reducible refine (eqQue_yes l1 d1 A100 A4_21 m101 c102 n4_21 c4_21 _ _ _ _ _ (rq_of HE104.out F132.out) (rq_of HE28.out F126.out)).mono ?_)
  rintro e w134 ⟨rfl, hb⟩
  have S136 := Lib.hid (hb.size)
  have B135 := Lib.hid (B120.out.trans (hb.mono B120.out.size))
  clear B120
  have F137 := Lib.hid (F122.out.below hb)
  clear F122
  have F138 := Lib.hid (F123.out.below hb)
  clear F123
  have F139 := Lib.hid (F124.out.below hb)
  clear F124
  have F140 := Lib.hid (F125.out.below hb)
  clear F125
  have F141 := Lib.hid (F126.out.below hb)
  clear F126
  have F142 := Lib.hid (F127.out.below hb)
  clear F127
  have F143 := Lib.hid (F128.out.below hb)
  clear F128
  have F144 := Lib.hid (F129.out.below hb)
  clear F129
  have F145 := Lib.hid (F130.out.below hb)
  clear F130
  have F146 := Lib.hid (F131.out.below hb)
  clear F131
  have F147 := Lib.hid (F132.out.below hb)
  clear F132
  have F148 := Lib.hid (X133.out.below hb)
  clear X133
  clear hb
  go_wp2_with fail
  have hbd : Below w134.heap.size w134 w134.drew := own.below_drew (Below.refl _ _)
  have S150 := Lib.hid (hbd.size)
  have B149 := Lib.hid (B135.out.trans (hbd.mono B135.out.size))
  clear B135
  have F151 := Lib.hid (F137.out.below hbd)
  clear F137
  have F152 := Lib.hid (F138.out.below hbd)
  clear F138
  have F153 := Lib.hid (F139.out.below hbd)
  clear F139
  have F154 := Lib.hid (F140.out.below hbd)
  clear F140
  have F155 := Lib.hid (F141.out.below hbd)
  clear F141
  have F156 := Lib.hid (F142.out.below hbd)
  clear F142
  have F157 := Lib.hid (F143.out.below hbd)
  clear F143
  have F158 := Lib.hid (F144.out.below hbd)
  clear F144
  have F159 := Lib.hid (F145.out.below hbd)
  clear F145
  have F160 := Lib.hid (F146.out.below hbd)
  clear F146
  have F161 := Lib.hid (F147.out.below hbd)
  clear F147
  have F162 := Lib.hid (F148.out.below hbd)
  clear F148
  clear hbd
  have ca0_0 : w134.drew.cell? ⟨w43.heap.size, 0, none⟩ = some (.slice A44 n c46) := F158.out.cell 0
  have ca0_1 : w134.drew.cell? ⟨w43.heap.size, 1, none⟩ = some (.int .i64 d) := F158.out.cell 1
  have ca1_0 : w134.drew.cell? ⟨w.heap.size, 0, none⟩ = some (.slice A n cap) := F151.out.cell 0
  have ca1_1 : w134.drew.cell? ⟨w.heap.size, 1, none⟩ = some (.int .i64 d) := F151.out.cell 1
  go_region_held3 (fun w' => w'.cell? ⟨w43.heap.size, 0, none⟩ = some (.slice A44 n c46) ∧ w'.cell? ⟨w43.heap.size, 1, none⟩ = some (.int .i64 d) ∧ w'.cell? ⟨w.heap.size, 0, none⟩ = some (.slice A n cap) ∧ w'.cell? ⟨w.heap.size, 1, none⟩ = some (.int .i64 d)) (first | (with_reducible exact ⟨ca0_0, ca0_1, ca1_0, ca1_1⟩) | (with_reducible exact ⟨cb0_0, cb0_1, cb1_0, cb1_1⟩) | (with_reducible exact ⟨cd0_0, cd0_1, cd1_0, cd1_1⟩))
    (first
    | (go_at_call 33; refine (toQue ms d A n cap _ _ HN.out HBD.out _ F152.out).mono ?_; rintro e w163 hp; obtain ⟨A165, m166, c167, es168, rfl, g9, ho, hb⟩ := q_parts2 hp; clear hp; obtain rfl : n = m166 := (by have h1 := ho.len; have h2 := congrArg List.length g9; have h3 := HLN.out; simp at h2; omega); have HE169 := Lib.hid g9; clear g9; have F170 := Lib.hid ho; clear ho; have S172 := Lib.hid (hb.size); have B171 := Lib.hid (B149.out.trans (hb.mono B149.out.size)); clear B149; have F173 := Lib.hid (F151.out.below hb); clear F151; have F174 := Lib.hid (F152.out.below hb); clear F152; have F175 := Lib.hid (F153.out.below hb); clear F153; have F176 := Lib.hid (F154.out.below hb); clear F154; have F177 := Lib.hid (F155.out.below hb); clear F155; have F178 := Lib.hid (F156.out.below hb); clear F156; have F179 := Lib.hid (F157.out.below hb); clear F157; have F180 := Lib.hid (F158.out.below hb); clear F158; have F181 := Lib.hid (F159.out.below hb); clear F159; have F182 := Lib.hid (F160.out.below hb); clear F160; have F183 := Lib.hid (F161.out.below hb); clear F161; have F184 := Lib.hid (F162.out.below hb); clear F162; clear hb; have cb0_0 : w163.cell? ⟨w43.heap.size, 0, none⟩ = some (.slice A44 n c46) := F180.out.cell 0; have cb0_1 : w163.cell? ⟨w43.heap.size, 1, none⟩ = some (.int .i64 d) := F180.out.cell 1; have cb1_0 : w163.cell? ⟨w.heap.size, 0, none⟩ = some (.slice A n cap) := F173.out.cell 0; have cb1_1 : w163.cell? ⟨w.heap.size, 1, none⟩ = some (.int .i64 d) := F173.out.cell 1)
    | (go_at_call 34; refine (eqQue_yes ms d A44 A165 n c46 n c167 _ _ _ _ _ (rq_of HE48.out F179.out) (rq_of HE169.out F170.out)).mono ?_; rintro e w164 ⟨rfl, hb⟩; have S186 := Lib.hid (hb.size); have B185 := Lib.hid (B171.out.trans (hb.mono B171.out.size)); clear B171; have F187 := Lib.hid (F173.out.below hb); clear F173; have F188 := Lib.hid (F174.out.below hb); clear F174; have F189 := Lib.hid (F175.out.below hb); clear F175; have F190 := Lib.hid (F176.out.below hb); clear F176; have F191 := Lib.hid (F177.out.below hb); clear F177; have F192 := Lib.hid (F178.out.below hb); clear F178; have F193 := Lib.hid (F179.out.below hb); clear F179; have F194 := Lib.hid (F180.out.below hb); clear F180; have F195 := Lib.hid (F181.out.below hb); clear F181; have F196 := Lib.hid (F182.out.below hb); clear F182; have F197 := Lib.hid (F183.out.below hb); clear F183; have F198 := Lib.hid (F184.out.below hb); clear F184; clear hb; have cd0_0 : w164.cell? ⟨w43.heap.size, 0, none⟩ = some (.slice A44 n c46) := F194.out.cell 0; have cd0_1 : w164.cell? ⟨w43.heap.size, 1, none⟩ = some (.int .i64 d) := F194.out.cell 1; have cd1_0 : w164.cell? ⟨w.heap.size, 0, none⟩ = some (.slice A n cap) := F187.out.cell 0; have cd1_1 : w164.cell? ⟨w.heap.size, 1, none⟩ = some (.int .i64 d) := F187.out.cell 1))
  clear ca0_0 ca0_1 ca1_0 ca1_1 cb0_0 cb0_1 cb1_0 cb1_1 cd0_0 cd0_1 cd1_0 cd1_1
  go_wp2_with fail
  have hbd : Below w164.heap.size w164 w164.drew := own.below_drew (Below.refl _ _)
  have S200 := Lib.hid (hbd.size)
  have B199 := Lib.hid (B185.out.trans (hbd.mono B185.out.size))
  clear B185
  have F201 := Lib.hid (F187.out.below hbd)
  clear F187
  have F202 := Lib.hid (F188.out.below hbd)
  clear F188
  have F203 := Lib.hid (F189.out.below hbd)
  clear F189
  have F204 := Lib.hid (F190.out.below hbd)
  clear F190
  have F205 := Lib.hid (F191.out.below hbd)
  clear F191
  have F206 := Lib.hid (F192.out.below hbd)
  clear F192
  have F207 := Lib.hid (F193.out.below hbd)
  clear F193
  have F208 := Lib.hid (F194.out.below hbd)
  clear F194
  have F209 := Lib.hid (F195.out.below hbd)
  clear F195
  have F210 := Lib.hid (F196.out.below hbd)
  clear F196
  have F211 := Lib.hid (F197.out.below hbd)
  clear F197
  have F212 := Lib.hid (F198.out.below hbd)
  clear F198
  clear hbd
  have ca0_0 : w164.drew.cell? ⟨w70.heap.size, 0, none⟩ = some (.int .i64 mx.1) := F210.out.cell 0
  have ca0_1 : w164.drew.cell? ⟨w70.heap.size, 1, none⟩ = some (.int .i64 mx.2.1) := F210.out.cell 1
  have ca0_2 : w164.drew.cell? ⟨w70.heap.size, 2, none⟩ = some (.int .i64 mx.2.2.1) := F210.out.cell 2
  have ca0_3 : w164.drew.cell? ⟨w70.heap.size, 3, none⟩ = some (.slice A71 nm c73) := F210.out.cell 3
  have ca1_0 : w164.drew.cell? ⟨w.heap.size + 1, 0, none⟩ = some (.int .i64 mx.1) := F203.out.cell 0
  have ca1_1 : w164.drew.cell? ⟨w.heap.size + 1, 1, none⟩ = some (.int .i64 mx.2.1) := F203.out.cell 1
  have ca1_2 : w164.drew.cell? ⟨w.heap.size + 1, 2, none⟩ = some (.int .i64 mx.2.2.1) := F203.out.cell 2
  have ca1_3 : w164.drew.cell? ⟨w.heap.size + 1, 3, none⟩ = some (.slice Am nm cm) := F203.out.cell 3
  go_region_held3 (fun w' => w'.cell? ⟨w70.heap.size, 0, none⟩ = some (.int .i64 mx.1) ∧ w'.cell? ⟨w70.heap.size, 1, none⟩ = some (.int .i64 mx.2.1) ∧ w'.cell? ⟨w70.heap.size, 2, none⟩ = some (.int .i64 mx.2.2.1) ∧ w'.cell? ⟨w70.heap.size, 3, none⟩ = some (.slice A71 nm c73) ∧ w'.cell? ⟨w.heap.size + 1, 0, none⟩ = some (.int .i64 mx.1) ∧ w'.cell? ⟨w.heap.size + 1, 1, none⟩ = some (.int .i64 mx.2.1) ∧ w'.cell? ⟨w.heap.size + 1, 2, none⟩ = some (.int .i64 mx.2.2.1) ∧ w'.cell? ⟨w.heap.size + 1, 3, none⟩ = some (.slice Am nm cm)) (first | (with_reducible exact ⟨ca0_0, ca0_1, ca0_2, ca0_3, ca1_0, ca1_1, ca1_2, ca1_3⟩) | (with_reducible exact ⟨cb0_0, cb0_1, cb0_2, cb0_3, cb1_0, cb1_1, cb1_2, cb1_3⟩) | (with_reducible exact ⟨cd0_0, cd0_1, cd0_2, cd0_3, cd1_0, cd1_1, cd1_2, cd1_3⟩))
    (first
    | (go_at_call 29; refine (toMsg mx Am nm cm _ _ _ F204.out HXN.out).mono ?_; rintro e w213 hp; obtain ⟨A215, m216, c217, rfl, ho, hb⟩ := x_parts hp; clear hp; obtain rfl : nm = m216 := (by have h1 := ho.len; have h2 := HXL.out; omega); have F218 := Lib.hid ho; clear ho; have S220 := Lib.hid (hb.size); have B219 := Lib.hid (B199.out.trans (hb.mono B199.out.size)); clear B199; have F221 := Lib.hid (F201.out.below hb); clear F201; have F222 := Lib.hid (F202.out.below hb); clear F202; have F223 := Lib.hid (F203.out.below hb); clear F203; have F224 := Lib.hid (F204.out.below hb); clear F204; have F225 := Lib.hid (F205.out.below hb); clear F205; have F226 := Lib.hid (F206.out.below hb); clear F206; have F227 := Lib.hid (F207.out.below hb); clear F207; have F228 := Lib.hid (F208.out.below hb); clear F208; have F229 := Lib.hid (F209.out.below hb); clear F209; have F230 := Lib.hid (F210.out.below hb); clear F210; have F231 := Lib.hid (F211.out.below hb); clear F211; have F232 := Lib.hid (F212.out.below hb); clear F212; clear hb; have cb0_0 : w213.cell? ⟨w70.heap.size, 0, none⟩ = some (.int .i64 mx.1) := F230.out.cell 0; have cb0_1 : w213.cell? ⟨w70.heap.size, 1, none⟩ = some (.int .i64 mx.2.1) := F230.out.cell 1; have cb0_2 : w213.cell? ⟨w70.heap.size, 2, none⟩ = some (.int .i64 mx.2.2.1) := F230.out.cell 2; have cb0_3 : w213.cell? ⟨w70.heap.size, 3, none⟩ = some (.slice A71 nm c73) := F230.out.cell 3; have cb1_0 : w213.cell? ⟨w.heap.size + 1, 0, none⟩ = some (.int .i64 mx.1) := F223.out.cell 0; have cb1_1 : w213.cell? ⟨w.heap.size + 1, 1, none⟩ = some (.int .i64 mx.2.1) := F223.out.cell 1; have cb1_2 : w213.cell? ⟨w.heap.size + 1, 2, none⟩ = some (.int .i64 mx.2.2.1) := F223.out.cell 2; have cb1_3 : w213.cell? ⟨w.heap.size + 1, 3, none⟩ = some (.slice Am nm cm) := F223.out.cell 3)
    | (go_at_call 31; refine (eqMsg_yes mx A71 nm c73 A215 nm c217 _ _ _ _ _ F229.out.rd F218.out.rd).mono ?_; rintro e w214 ⟨rfl, hb⟩; have S234 := Lib.hid (hb.size); have B233 := Lib.hid (B219.out.trans (hb.mono B219.out.size)); clear B219; have F235 := Lib.hid (F221.out.below hb); clear F221; have F236 := Lib.hid (F222.out.below hb); clear F222; have F237 := Lib.hid (F223.out.below hb); clear F223; have F238 := Lib.hid (F224.out.below hb); clear F224; have F239 := Lib.hid (F225.out.below hb); clear F225; have F240 := Lib.hid (F226.out.below hb); clear F226; have F241 := Lib.hid (F227.out.below hb); clear F227; have F242 := Lib.hid (F228.out.below hb); clear F228; have F243 := Lib.hid (F229.out.below hb); clear F229; have F244 := Lib.hid (F230.out.below hb); clear F230; have F245 := Lib.hid (F231.out.below hb); clear F231; have F246 := Lib.hid (F232.out.below hb); clear F232; clear hb; have cd0_0 : w214.cell? ⟨w70.heap.size, 0, none⟩ = some (.int .i64 mx.1) := F244.out.cell 0; have cd0_1 : w214.cell? ⟨w70.heap.size, 1, none⟩ = some (.int .i64 mx.2.1) := F244.out.cell 1; have cd0_2 : w214.cell? ⟨w70.heap.size, 2, none⟩ = some (.int .i64 mx.2.2.1) := F244.out.cell 2; have cd0_3 : w214.cell? ⟨w70.heap.size, 3, none⟩ = some (.slice A71 nm c73) := F244.out.cell 3; have cd1_0 : w214.cell? ⟨w.heap.size + 1, 0, none⟩ = some (.int .i64 mx.1) := F237.out.cell 0; have cd1_1 : w214.cell? ⟨w.heap.size + 1, 1, none⟩ = some (.int .i64 mx.2.1) := F237.out.cell 1; have cd1_2 : w214.cell? ⟨w.heap.size + 1, 2, none⟩ = some (.int .i64 mx.2.2.1) := F237.out.cell 2; have cd1_3 : w214.cell? ⟨w.heap.size + 1, 3, none⟩ = some (.slice Am nm cm) := F237.out.cell 3))
  clear ca0_0 ca0_1 ca0_2 ca0_3 ca1_0 ca1_1 ca1_2 ca1_3 cb0_0 cb0_1 cb0_2 cb0_3 cb1_0 cb1_1 cb1_2 cb1_3 cd0_0 cd0_1 cd0_2 cd0_3 cd1_0 cd1_1 cd1_2 cd1_3
  have cc0_0 : w214.cell? ⟨w43.heap.size, 0, none⟩ = some (.slice A44 n c46) := F242.out.cell 0
  have cc0_1 : w214.cell? ⟨w43.heap.size, 1, none⟩ = some (.int .i64 d) := F242.out.cell 1
  go_wp2_with fail
  clear cc0_0 cc0_1
  (with_reducible refine (markQue ms d A44 n c46 _ _ 1 (by omega) BD0.out.top BD0.out.body _ (oq_of HE48.out F241.out)).mono ?_)
  rintro e w247 ⟨rfl, ho, hb⟩
  obtain ⟨k1, hk9⟩ : ∃ k, 1 + tot ms = k := ⟨_, rfl⟩
  rw [hk9]
  have Hk1 := Lib.hid hk9
  have ngk1 : ¬ k1 < 0 := by have h9 := BD0.out.2.2; rw [hk9] at h9; omega
  have K1 := Lib.hid (show 0 ≤ k1 ∧ k1 ≤ 1099511627776 by have h9 := BD0.out; rw [← hk9]; exact ⟨h9.2.2, h9.2.1⟩)
  clear hk9
  obtain ⟨es248, ge, go⟩ := ho
  have HE249 := Lib.hid ge
  have F250 := Lib.hid go
  clear ge go
  have S252 := Lib.hid (hb.size)
  have B251 := Lib.hid (B233.out.trans (hb.below (by have s0 := S00.out; have s1 := S3.out; have s2 := S10.out; have s3 := S16.out; have s4 := S23.out; have s5 := S32.out; have s6 := S33.out; have s7 := HQ30.out; have s8 := S36.out; have s9 := S51.out; have s10 := S59.out; have s11 := S61.out; have s12 := S76.out; have s13 := S86.out; have s14 := S88.out; have s15 := S107.out; have s16 := S119.out; have s17 := S121.out; have s18 := S136.out; have s19 := S150.out; have s20 := S172.out; have s21 := S186.out; have s22 := S200.out; have s23 := S220.out; have s24 := S234.out; omega) B233.out.size))
  clear B233
  have F253 := Lib.hid (F235.out.tch hb (by have s0 := S00.out; have s1 := S3.out; have s2 := S10.out; have s3 := S16.out; have s4 := S23.out; have s5 := S32.out; have s6 := S33.out; have s7 := HQ30.out; have s8 := S36.out; have s9 := S51.out; have s10 := S59.out; have s11 := S61.out; have s12 := S76.out; have s13 := S86.out; have s14 := S88.out; have s15 := S107.out; have s16 := S119.out; have s17 := S121.out; have s18 := S136.out; have s19 := S150.out; have s20 := S172.out; have s21 := S186.out; have s22 := S200.out; have s23 := S220.out; have s24 := S234.out; have s25 := S252.out; omega))
  clear F235
  have F254 := Lib.hid (F236.out.tch hb (by have s0 := S00.out; have s1 := S3.out; have s2 := S10.out; have s3 := S16.out; have s4 := S23.out; have s5 := S32.out; have s6 := S33.out; have s7 := HQ30.out; have s8 := S36.out; have s9 := S51.out; have s10 := S59.out; have s11 := S61.out; have s12 := S76.out; have s13 := S86.out; have s14 := S88.out; have s15 := S107.out; have s16 := S119.out; have s17 := S121.out; have s18 := S136.out; have s19 := S150.out; have s20 := S172.out; have s21 := S186.out; have s22 := S200.out; have s23 := S220.out; have s24 := S234.out; have s25 := S252.out; omega))
  clear F236
  have F255 := Lib.hid (F237.out.tch hb (by have s0 := S00.out; have s1 := S3.out; have s2 := S10.out; have s3 := S16.out; have s4 := S23.out; have s5 := S32.out; have s6 := S33.out; have s7 := HQ30.out; have s8 := S36.out; have s9 := S51.out; have s10 := S59.out; have s11 := S61.out; have s12 := S76.out; have s13 := S86.out; have s14 := S88.out; have s15 := S107.out; have s16 := S119.out; have s17 := S121.out; have s18 := S136.out; have s19 := S150.out; have s20 := S172.out; have s21 := S186.out; have s22 := S200.out; have s23 := S220.out; have s24 := S234.out; have s25 := S252.out; omega))
  clear F237
  have F256 := Lib.hid (F238.out.tch hb (by have s0 := S00.out; have s1 := S3.out; have s2 := S10.out; have s3 := S16.out; have s4 := S23.out; have s5 := S32.out; have s6 := S33.out; have s7 := HQ30.out; have s8 := S36.out; have s9 := S51.out; have s10 := S59.out; have s11 := S61.out; have s12 := S76.out; have s13 := S86.out; have s14 := S88.out; have s15 := S107.out; have s16 := S119.out; have s17 := S121.out; have s18 := S136.out; have s19 := S150.out; have s20 := S172.out; have s21 := S186.out; have s22 := S200.out; have s23 := S220.out; have s24 := S234.out; have s25 := S252.out; omega))
  clear F238
  have F257 := Lib.hid (F239.out.tch hb (by have s0 := S00.out; have s1 := S3.out; have s2 := S10.out; have s3 := S16.out; have s4 := S23.out; have s5 := S32.out; have s6 := S33.out; have s7 := HQ30.out; have s8 := S36.out; have s9 := S51.out; have s10 := S59.out; have s11 := S61.out; have s12 := S76.out; have s13 := S86.out; have s14 := S88.out; have s15 := S107.out; have s16 := S119.out; have s17 := S121.out; have s18 := S136.out; have s19 := S150.out; have s20 := S172.out; have s21 := S186.out; have s22 := S200.out; have s23 := S220.out; have s24 := S234.out; have s25 := S252.out; omega))
  clear F239
  have F258 := Lib.hid (F240.out.tch hb (by have s0 := S00.out; have s1 := S3.out; have s2 := S10.out; have s3 := S16.out; have s4 := S23.out; have s5 := S32.out; have s6 := S33.out; have s7 := HQ30.out; have s8 := S36.out; have s9 := S51.out; have s10 := S59.out; have s11 := S61.out; have s12 := S76.out; have s13 := S86.out; have s14 := S88.out; have s15 := S107.out; have s16 := S119.out; have s17 := S121.out; have s18 := S136.out; have s19 := S150.out; have s20 := S172.out; have s21 := S186.out; have s22 := S200.out; have s23 := S220.out; have s24 := S234.out; have s25 := S252.out; omega))
  clear F240
  have F259 := Lib.hid (F242.out.tch hb (by have s0 := S00.out; have s1 := S3.out; have s2 := S10.out; have s3 := S16.out; have s4 := S23.out; have s5 := S32.out; have s6 := S33.out; have s7 := HQ30.out; have s8 := S36.out; have s9 := S51.out; have s10 := S59.out; have s11 := S61.out; have s12 := S76.out; have s13 := S86.out; have s14 := S88.out; have s15 := S107.out; have s16 := S119.out; have s17 := S121.out; have s18 := S136.out; have s19 := S150.out; have s20 := S172.out; have s21 := S186.out; have s22 := S200.out; have s23 := S220.out; have s24 := S234.out; have s25 := S252.out; omega))
  clear F242
  have F260 := Lib.hid (F243.out.tch hb (by have s0 := S00.out; have s1 := S3.out; have s2 := S10.out; have s3 := S16.out; have s4 := S23.out; have s5 := S32.out; have s6 := S33.out; have s7 := HQ30.out; have s8 := S36.out; have s9 := S51.out; have s10 := S59.out; have s11 := S61.out; have s12 := S76.out; have s13 := S86.out; have s14 := S88.out; have s15 := S107.out; have s16 := S119.out; have s17 := S121.out; have s18 := S136.out; have s19 := S150.out; have s20 := S172.out; have s21 := S186.out; have s22 := S200.out; have s23 := S220.out; have s24 := S234.out; have s25 := S252.out; omega))
  clear F243
  have F261 := Lib.hid (F244.out.tch hb (by have s0 := S00.out; have s1 := S3.out; have s2 := S10.out; have s3 := S16.out; have s4 := S23.out; have s5 := S32.out; have s6 := S33.out; have s7 := HQ30.out; have s8 := S36.out; have s9 := S51.out; have s10 := S59.out; have s11 := S61.out; have s12 := S76.out; have s13 := S86.out; have s14 := S88.out; have s15 := S107.out; have s16 := S119.out; have s17 := S121.out; have s18 := S136.out; have s19 := S150.out; have s20 := S172.out; have s21 := S186.out; have s22 := S200.out; have s23 := S220.out; have s24 := S234.out; have s25 := S252.out; omega))
  clear F244
  have F262 := Lib.hid (F245.out.tch hb (by have s0 := S00.out; have s1 := S3.out; have s2 := S10.out; have s3 := S16.out; have s4 := S23.out; have s5 := S32.out; have s6 := S33.out; have s7 := HQ30.out; have s8 := S36.out; have s9 := S51.out; have s10 := S59.out; have s11 := S61.out; have s12 := S76.out; have s13 := S86.out; have s14 := S88.out; have s15 := S107.out; have s16 := S119.out; have s17 := S121.out; have s18 := S136.out; have s19 := S150.out; have s20 := S172.out; have s21 := S186.out; have s22 := S200.out; have s23 := S220.out; have s24 := S234.out; have s25 := S252.out; omega))
  clear F245
  have F263 := Lib.hid (F246.out.tch hb (by have s0 := S00.out; have s1 := S3.out; have s2 := S10.out; have s3 := S16.out; have s4 := S23.out; have s5 := S32.out; have s6 := S33.out; have s7 := HQ30.out; have s8 := S36.out; have s9 := S51.out; have s10 := S59.out; have s11 := S61.out; have s12 := S76.out; have s13 := S86.out; have s14 := S88.out; have s15 := S107.out; have s16 := S119.out; have s17 := S121.out; have s18 := S136.out; have s19 := S150.out; have s20 := S172.out; have s21 := S186.out; have s22 := S200.out; have s23 := S220.out; have s24 := S234.out; have s25 := S252.out; omega))
  clear F246
  clear hb
  clear F241 HE48
  clear F259
  clear F250
  have cc0_0 : w247.cell? ⟨w70.heap.size, 0, none⟩ = some (.int .i64 mx.1) := F261.out.cell 0
  have cc0_1 : w247.cell? ⟨w70.heap.size, 1, none⟩ = some (.int .i64 mx.2.1) := F261.out.cell 1
  have cc0_2 : w247.cell? ⟨w70.heap.size, 2, none⟩ = some (.int .i64 mx.2.2.1) := F261.out.cell 2
  have cc0_3 : w247.cell? ⟨w70.heap.size, 3, none⟩ = some (.slice A71 nm c73) := F261.out.cell 3
  go_wp2_with fail
  clear cc0_0 cc0_1 cc0_2 cc0_3
  (with_reducible refine (markMsg mx A71 nm c73 _ _ k1 _ F260.out K1.out.1 K1.out.2 HXN.out).mono ?_)
  rintro e w264 ⟨rfl, ho, hb⟩
  clear ho
  obtain ⟨k1b, hk9⟩ : ∃ k, k1 + nm = k := ⟨_, rfl⟩
  rw [hk9]
  have Hk1b := Lib.hid hk9
  have ngk1b : ¬ k1b < 0 := by have h9 := K1.out; omega
  clear hk9
  have S266 := Lib.hid (hb.size)
  have B265 := Lib.hid (B251.out.trans (hb.below (by have s0 := S00.out; have s1 := S3.out; have s2 := S10.out; have s3 := S16.out; have s4 := S23.out; have s5 := S32.out; have s6 := S33.out; have s7 := HQ30.out; have s8 := S36.out; have s9 := S51.out; have s10 := S59.out; have s11 := S61.out; have s12 := S76.out; have s13 := S86.out; have s14 := S88.out; have s15 := S107.out; have s16 := S119.out; have s17 := S121.out; have s18 := S136.out; have s19 := S150.out; have s20 := S172.out; have s21 := S186.out; have s22 := S200.out; have s23 := S220.out; have s24 := S234.out; have s25 := S252.out; omega) B251.out.size))
  clear B251
  have F267 := Lib.hid (F253.out.tch hb (by have s0 := S00.out; have s1 := S3.out; have s2 := S10.out; have s3 := S16.out; have s4 := S23.out; have s5 := S32.out; have s6 := S33.out; have s7 := HQ30.out; have s8 := S36.out; have s9 := S51.out; have s10 := S59.out; have s11 := S61.out; have s12 := S76.out; have s13 := S86.out; have s14 := S88.out; have s15 := S107.out; have s16 := S119.out; have s17 := S121.out; have s18 := S136.out; have s19 := S150.out; have s20 := S172.out; have s21 := S186.out; have s22 := S200.out; have s23 := S220.out; have s24 := S234.out; have s25 := S252.out; have s26 := S266.out; omega))
  clear F253
  have F268 := Lib.hid (F254.out.tch hb (by have s0 := S00.out; have s1 := S3.out; have s2 := S10.out; have s3 := S16.out; have s4 := S23.out; have s5 := S32.out; have s6 := S33.out; have s7 := HQ30.out; have s8 := S36.out; have s9 := S51.out; have s10 := S59.out; have s11 := S61.out; have s12 := S76.out; have s13 := S86.out; have s14 := S88.out; have s15 := S107.out; have s16 := S119.out; have s17 := S121.out; have s18 := S136.out; have s19 := S150.out; have s20 := S172.out; have s21 := S186.out; have s22 := S200.out; have s23 := S220.out; have s24 := S234.out; have s25 := S252.out; have s26 := S266.out; omega))
  clear F254
  have F269 := Lib.hid (F255.out.tch hb (by have s0 := S00.out; have s1 := S3.out; have s2 := S10.out; have s3 := S16.out; have s4 := S23.out; have s5 := S32.out; have s6 := S33.out; have s7 := HQ30.out; have s8 := S36.out; have s9 := S51.out; have s10 := S59.out; have s11 := S61.out; have s12 := S76.out; have s13 := S86.out; have s14 := S88.out; have s15 := S107.out; have s16 := S119.out; have s17 := S121.out; have s18 := S136.out; have s19 := S150.out; have s20 := S172.out; have s21 := S186.out; have s22 := S200.out; have s23 := S220.out; have s24 := S234.out; have s25 := S252.out; have s26 := S266.out; omega))
  clear F255
  have F270 := Lib.hid (F256.out.tch hb (by have s0 := S00.out; have s1 := S3.out; have s2 := S10.out; have s3 := S16.out; have s4 := S23.out; have s5 := S32.out; have s6 := S33.out; have s7 := HQ30.out; have s8 := S36.out; have s9 := S51.out; have s10 := S59.out; have s11 := S61.out; have s12 := S76.out; have s13 := S86.out; have s14 := S88.out; have s15 := S107.out; have s16 := S119.out; have s17 := S121.out; have s18 := S136.out; have s19 := S150.out; have s20 := S172.out; have s21 := S186.out; have s22 := S200.out; have s23 := S220.out; have s24 := S234.out; have s25 := S252.out; have s26 := S266.out; omega))
  clear F256
  have F271 := Lib.hid (F257.out.tch hb (by have s0 := S00.out; have s1 := S3.out; have s2 := S10.out; have s3 := S16.out; have s4 := S23.out; have s5 := S32.out; have s6 := S33.out; have s7 := HQ30.out; have s8 := S36.out; have s9 := S51.out; have s10 := S59.out; have s11 := S61.out; have s12 := S76.out; have s13 := S86.out; have s14 := S88.out; have s15 := S107.out; have s16 := S119.out; have s17 := S121.out; have s18 := S136.out; have s19 := S150.out; have s20 := S172.out; have s21 := S186.out; have s22 := S200.out; have s23 := S220.out; have s24 := S234.out; have s25 := S252.out; have s26 := S266.out; omega))
  clear F257
  have F272 := Lib.hid (F258.out.tch hb (by have s0 := S00.out; have s1 := S3.out; have s2 := S10.out; have s3 := S16.out; have s4 := S23.out; have s5 := S32.out; have s6 := S33.out; have s7 := HQ30.out; have s8 := S36.out; have s9 := S51.out; have s10 := S59.out; have s11 := S61.out; have s12 := S76.out; have s13 := S86.out; have s14 := S88.out; have s15 := S107.out; have s16 := S119.out; have s17 := S121.out; have s18 := S136.out; have s19 := S150.out; have s20 := S172.out; have s21 := S186.out; have s22 := S200.out; have s23 := S220.out; have s24 := S234.out; have s25 := S252.out; have s26 := S266.out; omega))
  clear F258
  have F273 := Lib.hid (F261.out.tch hb (by have s0 := S00.out; have s1 := S3.out; have s2 := S10.out; have s3 := S16.out; have s4 := S23.out; have s5 := S32.out; have s6 := S33.out; have s7 := HQ30.out; have s8 := S36.out; have s9 := S51.out; have s10 := S59.out; have s11 := S61.out; have s12 := S76.out; have s13 := S86.out; have s14 := S88.out; have s15 := S107.out; have s16 := S119.out; have s17 := S121.out; have s18 := S136.out; have s19 := S150.out; have s20 := S172.out; have s21 := S186.out; have s22 := S200.out; have s23 := S220.out; have s24 := S234.out; have s25 := S252.out; have s26 := S266.out; omega))
  clear F261
  have F274 := Lib.hid (F262.out.tch hb (by have s0 := S00.out; have s1 := S3.out; have s2 := S10.out; have s3 := S16.out; have s4 := S23.out; have s5 := S32.out; have s6 := S33.out; have s7 := HQ30.out; have s8 := S36.out; have s9 := S51.out; have s10 := S59.out; have s11 := S61.out; have s12 := S76.out; have s13 := S86.out; have s14 := S88.out; have s15 := S107.out; have s16 := S119.out; have s17 := S121.out; have s18 := S136.out; have s19 := S150.out; have s20 := S172.out; have s21 := S186.out; have s22 := S200.out; have s23 := S220.out; have s24 := S234.out; have s25 := S252.out; have s26 := S266.out; omega))
  clear F262
  have F275 := Lib.hid (F263.out.tch hb (by have s0 := S00.out; have s1 := S3.out; have s2 := S10.out; have s3 := S16.out; have s4 := S23.out; have s5 := S32.out; have s6 := S33.out; have s7 := HQ30.out; have s8 := S36.out; have s9 := S51.out; have s10 := S59.out; have s11 := S61.out; have s12 := S76.out; have s13 := S86.out; have s14 := S88.out; have s15 := S107.out; have s16 := S119.out; have s17 := S121.out; have s18 := S136.out; have s19 := S150.out; have s20 := S172.out; have s21 := S186.out; have s22 := S200.out; have s23 := S220.out; have s24 := S234.out; have s25 := S252.out; have s26 := S266.out; omega))
  clear F263
  clear hb
  clear F260
  clear F273
  have cc0_0 : w264.cell? ⟨w99.heap.size, 0, none⟩ = some (.slice A100 m101 c102) := F275.out.cell 0
  have cc0_1 : w264.cell? ⟨w99.heap.size, 1, none⟩ = some (.int .i64 d1) := F275.out.cell 1
  have cc1_0 : w264.cell? ⟨qN21, 0, none⟩ = some (.slice A4_21 n4_21 c4_21) := F272.out.cell 0
  have cc1_1 : w264.cell? ⟨qN21, 1, none⟩ = some (.int .i64 d1) := F272.out.cell 1
  go_wp2_with fail
  clear cc0_0 cc0_1 cc1_0 cc1_1
  (with_reducible refine (eqQue_yes l1 d1 A100 A4_21 m101 c102 n4_21 c4_21 _ _ _ _ _ (rq_of HE104.out F274.out) (rq_of HE28.out F271.out)).mono ?_)
  rintro e w276 ⟨rfl, hb⟩
  have S278 := Lib.hid (hb.size)
  have B277 := Lib.hid (B265.out.trans (hb.mono B265.out.size))
  clear B265
  have F279 := Lib.hid (F267.out.below hb)
  clear F267
  have F280 := Lib.hid (F268.out.below hb)
  clear F268
  have F281 := Lib.hid (F269.out.below hb)
  clear F269
  have F282 := Lib.hid (F270.out.below hb)
  clear F270
  have F283 := Lib.hid (F271.out.below hb)
  clear F271
  have F284 := Lib.hid (F272.out.below hb)
  clear F272
  have F285 := Lib.hid (F274.out.below hb)
  clear F274
  have F286 := Lib.hid (F275.out.below hb)
  clear F275
  clear hb
  have cc0_0 : w276.cell? ⟨w99.heap.size, 0, none⟩ = some (.slice A100 m101 c102) := F286.out.cell 0
  have cc0_1 : w276.cell? ⟨w99.heap.size, 1, none⟩ = some (.int .i64 d1) := F286.out.cell 1
  go_wp2_with fail
  clear cc0_0 cc0_1
  (with_reducible refine (markQue l1 d1 A100 m101 c102 _ _ 1 (by omega) BD1.out.top BD1.out.body _ (oq_of HE104.out F285.out)).mono ?_)
  rintro e w287 ⟨rfl, ho, hb⟩
  obtain ⟨k2, hk9⟩ : ∃ k, 1 + tot l1 = k := ⟨_, rfl⟩
  rw [hk9]
  have Hk2 := Lib.hid hk9
  have ngk2 : ¬ k2 < 0 := by have h9 := BD1.out.2.2; rw [hk9] at h9; omega
  have K2 := Lib.hid (show 0 ≤ k2 ∧ k2 ≤ 1099511627776 by have h9 := BD1.out; rw [← hk9]; exact ⟨h9.2.2, h9.2.1⟩)
  clear hk9
  obtain ⟨es288, ge, go⟩ := ho
  have HE289 := Lib.hid ge
  have F290 := Lib.hid go
  clear ge go
  have S292 := Lib.hid (hb.size)
  have B291 := Lib.hid (B277.out.trans (hb.below (by have s0 := S00.out; have s1 := S3.out; have s2 := S10.out; have s3 := S16.out; have s4 := S23.out; have s5 := S32.out; have s6 := S33.out; have s7 := HQ30.out; have s8 := S36.out; have s9 := S51.out; have s10 := S59.out; have s11 := S61.out; have s12 := S76.out; have s13 := S86.out; have s14 := S88.out; have s15 := S107.out; have s16 := S119.out; have s17 := S121.out; have s18 := S136.out; have s19 := S150.out; have s20 := S172.out; have s21 := S186.out; have s22 := S200.out; have s23 := S220.out; have s24 := S234.out; have s25 := S252.out; have s26 := S266.out; have s27 := S278.out; omega) B277.out.size))
  clear B277
  have F293 := Lib.hid (F279.out.tch hb (by have s0 := S00.out; have s1 := S3.out; have s2 := S10.out; have s3 := S16.out; have s4 := S23.out; have s5 := S32.out; have s6 := S33.out; have s7 := HQ30.out; have s8 := S36.out; have s9 := S51.out; have s10 := S59.out; have s11 := S61.out; have s12 := S76.out; have s13 := S86.out; have s14 := S88.out; have s15 := S107.out; have s16 := S119.out; have s17 := S121.out; have s18 := S136.out; have s19 := S150.out; have s20 := S172.out; have s21 := S186.out; have s22 := S200.out; have s23 := S220.out; have s24 := S234.out; have s25 := S252.out; have s26 := S266.out; have s27 := S278.out; have s28 := S292.out; omega))
  clear F279
  have F294 := Lib.hid (F280.out.tch hb (by have s0 := S00.out; have s1 := S3.out; have s2 := S10.out; have s3 := S16.out; have s4 := S23.out; have s5 := S32.out; have s6 := S33.out; have s7 := HQ30.out; have s8 := S36.out; have s9 := S51.out; have s10 := S59.out; have s11 := S61.out; have s12 := S76.out; have s13 := S86.out; have s14 := S88.out; have s15 := S107.out; have s16 := S119.out; have s17 := S121.out; have s18 := S136.out; have s19 := S150.out; have s20 := S172.out; have s21 := S186.out; have s22 := S200.out; have s23 := S220.out; have s24 := S234.out; have s25 := S252.out; have s26 := S266.out; have s27 := S278.out; have s28 := S292.out; omega))
  clear F280
  have F295 := Lib.hid (F281.out.tch hb (by have s0 := S00.out; have s1 := S3.out; have s2 := S10.out; have s3 := S16.out; have s4 := S23.out; have s5 := S32.out; have s6 := S33.out; have s7 := HQ30.out; have s8 := S36.out; have s9 := S51.out; have s10 := S59.out; have s11 := S61.out; have s12 := S76.out; have s13 := S86.out; have s14 := S88.out; have s15 := S107.out; have s16 := S119.out; have s17 := S121.out; have s18 := S136.out; have s19 := S150.out; have s20 := S172.out; have s21 := S186.out; have s22 := S200.out; have s23 := S220.out; have s24 := S234.out; have s25 := S252.out; have s26 := S266.out; have s27 := S278.out; have s28 := S292.out; omega))
  clear F281
  have F296 := Lib.hid (F282.out.tch hb (by have s0 := S00.out; have s1 := S3.out; have s2 := S10.out; have s3 := S16.out; have s4 := S23.out; have s5 := S32.out; have s6 := S33.out; have s7 := HQ30.out; have s8 := S36.out; have s9 := S51.out; have s10 := S59.out; have s11 := S61.out; have s12 := S76.out; have s13 := S86.out; have s14 := S88.out; have s15 := S107.out; have s16 := S119.out; have s17 := S121.out; have s18 := S136.out; have s19 := S150.out; have s20 := S172.out; have s21 := S186.out; have s22 := S200.out; have s23 := S220.out; have s24 := S234.out; have s25 := S252.out; have s26 := S266.out; have s27 := S278.out; have s28 := S292.out; omega))
  clear F282
  have F297 := Lib.hid (F283.out.tch hb (by have s0 := S00.out; have s1 := S3.out; have s2 := S10.out; have s3 := S16.out; have s4 := S23.out; have s5 := S32.out; have s6 := S33.out; have s7 := HQ30.out; have s8 := S36.out; have s9 := S51.out; have s10 := S59.out; have s11 := S61.out; have s12 := S76.out; have s13 := S86.out; have s14 := S88.out; have s15 := S107.out; have s16 := S119.out; have s17 := S121.out; have s18 := S136.out; have s19 := S150.out; have s20 := S172.out; have s21 := S186.out; have s22 := S200.out; have s23 := S220.out; have s24 := S234.out; have s25 := S252.out; have s26 := S266.out; have s27 := S278.out; have s28 := S292.out; omega))
  clear F283
  have F298 := Lib.hid (F284.out.tch hb (by have s0 := S00.out; have s1 := S3.out; have s2 := S10.out; have s3 := S16.out; have s4 := S23.out; have s5 := S32.out; have s6 := S33.out; have s7 := HQ30.out; have s8 := S36.out; have s9 := S51.out; have s10 := S59.out; have s11 := S61.out; have s12 := S76.out; have s13 := S86.out; have s14 := S88.out; have s15 := S107.out; have s16 := S119.out; have s17 := S121.out; have s18 := S136.out; have s19 := S150.out; have s20 := S172.out; have s21 := S186.out; have s22 := S200.out; have s23 := S220.out; have s24 := S234.out; have s25 := S252.out; have s26 := S266.out; have s27 := S278.out; have s28 := S292.out; omega))
  clear F284
  have F299 := Lib.hid (F286.out.tch hb (by have s0 := S00.out; have s1 := S3.out; have s2 := S10.out; have s3 := S16.out; have s4 := S23.out; have s5 := S32.out; have s6 := S33.out; have s7 := HQ30.out; have s8 := S36.out; have s9 := S51.out; have s10 := S59.out; have s11 := S61.out; have s12 := S76.out; have s13 := S86.out; have s14 := S88.out; have s15 := S107.out; have s16 := S119.out; have s17 := S121.out; have s18 := S136.out; have s19 := S150.out; have s20 := S172.out; have s21 := S186.out; have s22 := S200.out; have s23 := S220.out; have s24 := S234.out; have s25 := S252.out; have s26 := S266.out; have s27 := S278.out; have s28 := S292.out; omega))
  clear F286
  clear hb
  clear F285 HE104
  have cc0_0 : w287.cell? ⟨w99.heap.size, 0, none⟩ = some (.slice A100 m101 c102) := F299.out.cell 0
  have cc0_1 : w287.cell? ⟨w99.heap.size, 1, none⟩ = some (.int .i64 d1) := F299.out.cell 1
  go_wp2_with fail
  clear cc0_0 cc0_1
  (with_reducible refine (heldQue l1 d1 A100 m101 c102 _ _ 1 (by omega) BD1.out.top BD1.out.body _ (rq_of HE289.out F290.out)).mono ?_)
  rintro e w300 hp
  obtain ⟨rfl, hb⟩ := n_parts Hk2.out hp
  clear hp
  have S302 := Lib.hid (hb.size)
  have B301 := Lib.hid (B291.out.trans (hb.mono B291.out.size))
  clear B291
  have F303 := Lib.hid (F293.out.below hb)
  clear F293
  have F304 := Lib.hid (F294.out.below hb)
  clear F294
  have F305 := Lib.hid (F295.out.below hb)
  clear F295
  have F306 := Lib.hid (F296.out.below hb)
  clear F296
  have F307 := Lib.hid (F297.out.below hb)
  clear F297
  have F308 := Lib.hid (F298.out.below hb)
  clear F298
  have F309 := Lib.hid (F290.out.below hb)
  clear F290
  have F310 := Lib.hid (F299.out.below hb)
  clear F299
  clear hb
  go_wp2_with fail
  have hbd : Below w300.heap.size w300 w300.drew := own.below_drew (Below.refl _ _)
  have S312 := Lib.hid (hbd.size)
  have B311 := Lib.hid (B301.out.trans (hbd.mono B301.out.size))
  clear B301
  have F313 := Lib.hid (F303.out.below hbd)
  clear F303
  have F314 := Lib.hid (F304.out.below hbd)
  clear F304
  have F315 := Lib.hid (F305.out.below hbd)
  clear F305
  have F316 := Lib.hid (F306.out.below hbd)
  clear F306
  have F317 := Lib.hid (F307.out.below hbd)
  clear F307
  have F318 := Lib.hid (F308.out.below hbd)
  clear F308
  have F319 := Lib.hid (F309.out.below hbd)
  clear F309
  have F320 := Lib.hid (F310.out.below hbd)
  clear F310
  clear hbd
  refine reg.region_tail reg.Bel 6 92 [some [], some [(0, 75)], some [], some [(2, 77)], some [(1, 76), (3, 78)], some [], none] [(0, 75), (1, 76), (2, 77), (3, 78), (4, 79), (5, 13)]
    (fun w' => Below w.heap.size w w' ∧ w300.drew.heap.size ≤ w'.heap.size ∧ bx.Bx 50 w' (w.heap.size) #[.slice A n cap, .int .i64 d] ∧ Rq msg w' (0) (w.heap.size) A n cap ms ∧ bx.Bx 44 w' (w.heap.size + 1) #[.int .i64 mx.1, .int .i64 mx.2.1, .int .i64 mx.2.2.1, .slice Am nm cm] ∧ Rd .u8 w' (0) (w.heap.size) Am nm cm mx.2.2.2 ∧ Oe msg w' (lo4_21) (hi4_21) A4_21 n4_21 c4_21 es4_21 ∧ bx.Bx 26 w' (qN21) #[.slice A4_21 n4_21 c4_21, .int .i64 d1] ∧ Oe msg w' (V85.heap.size) (w99.heap.size) A100 m101 c102 es288 ∧ bx.Bx 26 w' (w99.heap.size) #[.slice A100 m101 c102, .int .i64 d1] ∧ True)
    (reg.rl [reg.is (.agg #[.slice A n cap, .int .i64 d]), qrow ms d, reg.is (.agg #[.int .i64 mx.1, .int .i64 mx.2.1, .int .i64 mx.2.2.1, .slice Am nm cm]), stw.rowv .u8 mx.2.2.2 (fun A n c => mV mx A n c), qrow l1 d1, stw.mk 26 (w99.heap.size) #[.slice none 0 0, .int .i64 0], reg.free])
    (by kernel_rfl) rfl (by kernel_rfl) (by kernel_rfl) rfl
    (fun w1 w2 hc hb => ⟨hc.1.trans (hb.mono hc.1.size), Nat.le_trans hc.2.1 hb.size, hc.2.2.1.below hb, hc.2.2.2.1.below hb, hc.2.2.2.2.1.below hb, hc.2.2.2.2.2.1.below hb, hc.2.2.2.2.2.2.1.below hb, hc.2.2.2.2.2.2.2.1.below hb, hc.2.2.2.2.2.2.2.2.1.below hb, hc.2.2.2.2.2.2.2.2.2.1.below hb, trivial⟩) (reg.rl_keep _) (⟨B311.out, Nat.le_refl _, F313.out, F314.out, F315.out, F316.out, F317.out, F318.out, F319.out, F320.out, trivial⟩) (by kernel_rfl) ⟨?_, ?_, ?_, ?_, ?_, ?_, trivial⟩ ?_
  · refine fun w8 hc  K hK => ?_
    (try simp only [Act.put, List.setIfInBounds_toArray, List.set_cons_zero, List.set_cons_succ])
    rw [if_pos (by rfl)]
    refine stw.wp_load_bx 50 _ rfl (w.heap.size) rfl 50 _ hc.2.2.1 Try.underlying50 rfl szLQ ?_
    exact hK _ _ rfl (Below.refl _ _)
  · refine fun w8 hc v0 h0 K hK => ?_
    obtain rfl : v0 = .agg #[.slice A n cap, .int .i64 d] := h0
    (try simp only [Act.put, List.setIfInBounds_toArray, List.set_cons_zero, List.set_cons_succ])
    go_simp
    (with_reducible refine (toQue ms d A n cap _ _ HN.out HBD.out _ hc.2.2.2.1).mono ?_)
    rintro e w3 hp
    obtain ⟨A2, m2, c2, es2, rfl, g9, ho, hb⟩ := q_parts2 hp
    exact hK _ _ ⟨A2, m2, c2, _, _, es2, rfl, g9, ho⟩ hb
  · refine fun w8 hc  K hK => ?_
    (try simp only [Act.put, List.setIfInBounds_toArray, List.set_cons_zero, List.set_cons_succ])
    rw [if_pos (by rfl)]
    refine stw.wp_load_bx 44 _ rfl (w.heap.size + 1) rfl 44 _ hc.2.2.2.2.1 Try.underlying44 rfl szLM ?_
    exact hK _ _ rfl (Below.refl _ _)
  · refine fun w8 hc v2 h2 K hK => ?_
    obtain rfl : v2 = .agg #[.int .i64 mx.1, .int .i64 mx.2.1, .int .i64 mx.2.2.1, .slice Am nm cm] := h2
    (try simp only [Act.put, List.setIfInBounds_toArray, List.set_cons_zero, List.set_cons_succ])
    go_simp
    (with_reducible refine (toMsg mx Am nm cm _ _ _ hc.2.2.2.2.2.1 HXN.out).mono ?_)
    rintro e w3 hp
    obtain ⟨A2, m2, c2, rfl, ho, hb⟩ := x_parts hp
    exact hK _ _ ⟨A2, m2, c2, _, _, rfl, ho.rd⟩ hb
  · refine fun w8 hc v1 h1 v3 h3 K hK => ?_
    obtain ⟨A2_, n2_, c2_, lo2_, hi2_, es2_, rfl, hE2, hO2⟩ := h1
    obtain rfl : n = n2_ := by have h1 := hO2.len; have h2 := congrArg List.length hE2; have h3 := HLN.out; simp at h2; omega
    obtain ⟨A3_, n3_, c3_, lo3_, hi3_, rfl, hR3⟩ := h3
    obtain rfl : nm = n3_ := by have h1 := hR3.len; have h2 := HXL.out; omega
    (try simp only [Act.put, List.setIfInBounds_toArray, List.set_cons_zero, List.set_cons_succ])
    go_simp
    (with_reducible refine (implEn mx A3_ nm c3_ _ _ ms d A2_ n c2_ _ _ HN.out HBD.out _ (rq_of hE2 hO2) hR3 HXN.out).mono ?_)
    rw [VQ.out]
    rintro e w3 hp
    obtain ⟨A2, m2, c2, es2, rfl, g9, ho, hb⟩ := q_parts2 hp
    exact hK _ _ ⟨A2, m2, c2, _, _, es2, rfl, g9, ho⟩ hb
  · refine fun w8 hc  K hK => ?_
    (try simp only [Act.put, List.setIfInBounds_toArray, List.set_cons_zero, List.set_cons_succ])
    rw [if_pos (by rfl)]
    have hlt := hc.2.2.2.2.2.2.2.2.2.1.lt
    go_simp
    exact hK (.pointer (some ⟨w8.heap.size, 0, none⟩)) _ ⟨w8.heap.size, rfl, hlt, bx.Bx.made _ _ _⟩ (bx.below_box _ _)
  refine fun w321 hc v0 h0 v1 h1 v2 h2 v3 h3 v4 h4 v5 h5 => ?_
  obtain rfl : v0 = .agg #[.slice A n cap, .int .i64 d] := h0
  obtain ⟨A2_, n2_, c2_, lo2_, hi2_, es2_, rfl, hE2, hO2⟩ := h1
  obtain rfl : n = n2_ := by have h1 := hO2.len; have h2 := congrArg List.length hE2; have h3 := HLN.out; simp at h2; omega
  obtain rfl : v2 = .agg #[.int .i64 mx.1, .int .i64 mx.2.1, .int .i64 mx.2.2.1, .slice Am nm cm] := h2
  obtain ⟨A3_, n3_, c3_, lo3_, hi3_, rfl, hR3⟩ := h3
  obtain rfl : nm = n3_ := by have h1 := hR3.len; have h2 := HXL.out; omega
  obtain ⟨A4_321, n4_321, c4_321, lo4_321, hi4_321, es4_321, rfl, hE4, hO4⟩ := h4
  obtain ⟨qN321, rfl, hq, hP⟩ : ∃ q, v5 = .pointer (some ⟨q, 0, none⟩) ∧ w99.heap.size < q ∧ bx.Bx 26 w321 q #[.slice none 0 0, .int .i64 0] := h5
  (try simp only [reg.Obs])
  (try simp only [Act.put, List.setIfInBounds_toArray, List.set_cons_zero, List.set_cons_succ])
  simp only [List.drop_succ_cons, List.drop_zero]
  have B322 := Lib.hid hc.1
  have S323 := Lib.hid hc.2.1
  have F324 := Lib.hid hc.2.2.1
  have F325 := Lib.hid hc.2.2.2.1
  have F326 := Lib.hid hc.2.2.2.2.1
  have F327 := Lib.hid hc.2.2.2.2.2.1
  have F328 := Lib.hid hc.2.2.2.2.2.2.1
  have F329 := Lib.hid hc.2.2.2.2.2.2.2.1
  have F330 := Lib.hid hc.2.2.2.2.2.2.2.2.1
  have F331 := Lib.hid hc.2.2.2.2.2.2.2.2.2.1
  have S336 := Lib.hid hO4.hi_
  have S337 := Lib.hid hP.lt
  have HE332 := Lib.hid hE4
  have F333 := Lib.hid hO4
  have HQ334 := Lib.hid hq
  have HP335 := Lib.hid hP
  clear hE4 hO4 hq hP hE2 hO2 hR3 hc B311 F313 F314 F315 F316 F317 F318 F319 F320
  refine stw.list_store rfl 26 _ _ rfl qN321 #[.slice A4_321 n4_321 c4_321, .int .i64 d1] rfl rfl 26 _ HP335.out rfl szQ (oneQ _ _ _ _) ?_
  intro w338 hz
  (try simp only [Act.put])
  have bsz := hz.below.size
  have B339 := Lib.hid (hz.on B322.out (by have s0 := S00.out; have s1 := S3.out; have s2 := S10.out; have s3 := S16.out; have s4 := S23.out; have s5 := S32.out; have s6 := S33.out; have s7 := HQ30.out; have s8 := S36.out; have s9 := S51.out; have s10 := S59.out; have s11 := S61.out; have s12 := S76.out; have s13 := S86.out; have s14 := S88.out; have s15 := S107.out; have s16 := S119.out; have s17 := S121.out; have s18 := S136.out; have s19 := S150.out; have s20 := S172.out; have s21 := S186.out; have s22 := S200.out; have s23 := S220.out; have s24 := S234.out; have s25 := S252.out; have s26 := S266.out; have s27 := S278.out; have s28 := S292.out; have s29 := S302.out; have s30 := S312.out; have s31 := S323.out; have s32 := S336.out; have s33 := S337.out; have s34 := HQ334.out; omega))
  clear B322
  have S340 := Lib.hid bsz
  have F341 := Lib.hid (hz.keep F324.out (by have s0 := S00.out; have s1 := S3.out; have s2 := S10.out; have s3 := S16.out; have s4 := S23.out; have s5 := S32.out; have s6 := S33.out; have s7 := HQ30.out; have s8 := S36.out; have s9 := S51.out; have s10 := S59.out; have s11 := S61.out; have s12 := S76.out; have s13 := S86.out; have s14 := S88.out; have s15 := S107.out; have s16 := S119.out; have s17 := S121.out; have s18 := S136.out; have s19 := S150.out; have s20 := S172.out; have s21 := S186.out; have s22 := S200.out; have s23 := S220.out; have s24 := S234.out; have s25 := S252.out; have s26 := S266.out; have s27 := S278.out; have s28 := S292.out; have s29 := S302.out; have s30 := S312.out; have s31 := S323.out; have s32 := S336.out; have s33 := S337.out; have s34 := HQ334.out; omega))
  clear F324
  have F342 := Lib.hid (F325.out.same bsz (fun k h1 h2 => hz.other k (by have s0 := S00.out; have s1 := S3.out; have s2 := S10.out; have s3 := S16.out; have s4 := S23.out; have s5 := S32.out; have s6 := S33.out; have s7 := HQ30.out; have s8 := S36.out; have s9 := S51.out; have s10 := S59.out; have s11 := S61.out; have s12 := S76.out; have s13 := S86.out; have s14 := S88.out; have s15 := S107.out; have s16 := S119.out; have s17 := S121.out; have s18 := S136.out; have s19 := S150.out; have s20 := S172.out; have s21 := S186.out; have s22 := S200.out; have s23 := S220.out; have s24 := S234.out; have s25 := S252.out; have s26 := S266.out; have s27 := S278.out; have s28 := S292.out; have s29 := S302.out; have s30 := S312.out; have s31 := S323.out; have s32 := S336.out; have s33 := S337.out; have s34 := HQ334.out; omega)))
  clear F325
  have F343 := Lib.hid (hz.keep F326.out (by have s0 := S00.out; have s1 := S3.out; have s2 := S10.out; have s3 := S16.out; have s4 := S23.out; have s5 := S32.out; have s6 := S33.out; have s7 := HQ30.out; have s8 := S36.out; have s9 := S51.out; have s10 := S59.out; have s11 := S61.out; have s12 := S76.out; have s13 := S86.out; have s14 := S88.out; have s15 := S107.out; have s16 := S119.out; have s17 := S121.out; have s18 := S136.out; have s19 := S150.out; have s20 := S172.out; have s21 := S186.out; have s22 := S200.out; have s23 := S220.out; have s24 := S234.out; have s25 := S252.out; have s26 := S266.out; have s27 := S278.out; have s28 := S292.out; have s29 := S302.out; have s30 := S312.out; have s31 := S323.out; have s32 := S336.out; have s33 := S337.out; have s34 := HQ334.out; omega))
  clear F326
  have F344 := Lib.hid (F327.out.same bsz (fun k h1 h2 => hz.other k (by have s0 := S00.out; have s1 := S3.out; have s2 := S10.out; have s3 := S16.out; have s4 := S23.out; have s5 := S32.out; have s6 := S33.out; have s7 := HQ30.out; have s8 := S36.out; have s9 := S51.out; have s10 := S59.out; have s11 := S61.out; have s12 := S76.out; have s13 := S86.out; have s14 := S88.out; have s15 := S107.out; have s16 := S119.out; have s17 := S121.out; have s18 := S136.out; have s19 := S150.out; have s20 := S172.out; have s21 := S186.out; have s22 := S200.out; have s23 := S220.out; have s24 := S234.out; have s25 := S252.out; have s26 := S266.out; have s27 := S278.out; have s28 := S292.out; have s29 := S302.out; have s30 := S312.out; have s31 := S323.out; have s32 := S336.out; have s33 := S337.out; have s34 := HQ334.out; omega)))
  clear F327
  have F345 := Lib.hid (rgp.oe_set F328.out HP335.out (by decide) (by decide) bsz (fun k hk => hz.other k hk))
  clear F328
  have F346 := Lib.hid (hz.keep F329.out (by have s0 := S00.out; have s1 := S3.out; have s2 := S10.out; have s3 := S16.out; have s4 := S23.out; have s5 := S32.out; have s6 := S33.out; have s7 := HQ30.out; have s8 := S36.out; have s9 := S51.out; have s10 := S59.out; have s11 := S61.out; have s12 := S76.out; have s13 := S86.out; have s14 := S88.out; have s15 := S107.out; have s16 := S119.out; have s17 := S121.out; have s18 := S136.out; have s19 := S150.out; have s20 := S172.out; have s21 := S186.out; have s22 := S200.out; have s23 := S220.out; have s24 := S234.out; have s25 := S252.out; have s26 := S266.out; have s27 := S278.out; have s28 := S292.out; have s29 := S302.out; have s30 := S312.out; have s31 := S323.out; have s32 := S336.out; have s33 := S337.out; have s34 := HQ334.out; omega))
  clear F329
  have F347 := Lib.hid (rgp.oe_set F330.out HP335.out (by decide) (by decide) bsz (fun k hk => hz.other k hk))
  clear F330
  have F348 := Lib.hid (hz.keep F331.out (by have s0 := S00.out; have s1 := S3.out; have s2 := S10.out; have s3 := S16.out; have s4 := S23.out; have s5 := S32.out; have s6 := S33.out; have s7 := HQ30.out; have s8 := S36.out; have s9 := S51.out; have s10 := S59.out; have s11 := S61.out; have s12 := S76.out; have s13 := S86.out; have s14 := S88.out; have s15 := S107.out; have s16 := S119.out; have s17 := S121.out; have s18 := S136.out; have s19 := S150.out; have s20 := S172.out; have s21 := S186.out; have s22 := S200.out; have s23 := S220.out; have s24 := S234.out; have s25 := S252.out; have s26 := S266.out; have s27 := S278.out; have s28 := S292.out; have s29 := S302.out; have s30 := S312.out; have s31 := S323.out; have s32 := S336.out; have s33 := S337.out; have s34 := HQ334.out; omega))
  clear F331
  have F349 := Lib.hid (rgp.oe_set F333.out HP335.out (by decide) (by decide) bsz (fun k hk => hz.other k hk))
  clear F333
  have X350 := Lib.hid hz.box
  clear bsz hz HP335
  have cc0_0 : w338.cell? ⟨qN321, 0, none⟩ = some (.slice A4_321 n4_321 c4_321) := X350.out.cell 0
  have cc0_1 : w338.cell? ⟨qN321, 1, none⟩ = some (.int .i64 d1) := X350.out.cell 1
  have cc1_0 : w338.cell? ⟨qN21, 0, none⟩ = some (.slice A4_21 n4_21 c4_21) := F346.out.cell 0
  have cc1_1 : w338.cell? ⟨qN21, 1, none⟩ = some (.int .i64 d1) := F346.out.cell 1
  go_wp2_with fail
  clear cc0_0 cc0_1 cc1_0 cc1_1
  (with_reducible refine (eqQue_yes l1 d1 A4_321 A4_21 n4_321 c4_321 n4_21 c4_21 _ _ _ _ _ (rq_of HE332.out F349.out) (rq_of HE28.out F345.out)).mono ?_)
  rintro e w351 ⟨rfl, hb⟩
  have S353 := Lib.hid (hb.size)
  have B352 := Lib.hid (B339.out.trans (hb.mono B339.out.size))
  clear B339
  have F354 := Lib.hid (F341.out.below hb)
  clear F341
  have F355 := Lib.hid (F342.out.below hb)
  clear F342
  have F356 := Lib.hid (F343.out.below hb)
  clear F343
  have F357 := Lib.hid (F344.out.below hb)
  clear F344
  have F358 := Lib.hid (F345.out.below hb)
  clear F345
  have F359 := Lib.hid (F346.out.below hb)
  clear F346
  have F360 := Lib.hid (F347.out.below hb)
  clear F347
  have F361 := Lib.hid (F348.out.below hb)
  clear F348
  have F362 := Lib.hid (F349.out.below hb)
  clear F349
  have F363 := Lib.hid (X350.out.below hb)
  clear X350
  clear hb
  clear F363
  clear F362
  clear F359
  clear F358
  have cc0_0 : w351.cell? ⟨w99.heap.size, 0, none⟩ = some (.slice A100 m101 c102) := F361.out.cell 0
  have cc0_1 : w351.cell? ⟨w99.heap.size, 1, none⟩ = some (.int .i64 d1) := F361.out.cell 1
  go_wp2_with fail
  clear cc0_0 cc0_1
  (with_reducible refine (heldQue l1 d1 A100 m101 c102 _ _ 1 (by omega) BD1.out.top BD1.out.body _ (rq_of HE289.out F360.out)).mono ?_)
  rintro e w364 hp
  obtain ⟨rfl, hb⟩ := n_parts Hk2.out hp
  clear hp
  have S366 := Lib.hid (hb.size)
  have B365 := Lib.hid (B352.out.trans (hb.mono B352.out.size))
  clear B352
  have F367 := Lib.hid (F354.out.below hb)
  clear F354
  have F368 := Lib.hid (F355.out.below hb)
  clear F355
  have F369 := Lib.hid (F356.out.below hb)
  clear F356
  have F370 := Lib.hid (F357.out.below hb)
  clear F357
  have F371 := Lib.hid (F360.out.below hb)
  clear F360
  have F372 := Lib.hid (F361.out.below hb)
  clear F361
  clear hb
  go_wp2_with fail
  go_ret
  exact ⟨rfl, B365.out⟩
theorem walkA (ms : List Msg) (d : Int) (A : Option Addr) (n cap : Nat) (ma mb mc : Int) (Am : Option Addr) (nm cm : Nat) (mz : List Int) (w : World) (row0 : Rq msg w 0 w.heap.size A n cap ms) (rowx : kit.IsRow .u8 w Am nm cm mz) :
    Calls Try.prog 7 #[qV A n cap d, .agg #[.int .i64 ma, .int .i64 mb, .int .i64 mc, .slice Am nm cm]] w fun e w' => e = .returned (.bool true) ∧ Below w.heap.size w w' := by
  obtain ⟨y, hr⟩ := Rd.of_row rowx
  exact walk ms d A n cap (ma, mb, mc, y) Am nm cm w row0 hr
end Go.Proofs.Ytbifggfmfiocoaa.xExactEnqueueMessage
