/- The walk of FnExactBlockAckOf. Condition: none. -/
import Derived.Test.YtmmhleobgpgliaaRsz
import Derived.Test.YtmmhleobgpgliaaOpf
import Derived.Test.YtmmhleobgpgliaaRo9
namespace Go.Proofs.Ytmmhleobgpgliaa.xExactBlockAckOf
open Go.RowKit sl harn bx
set_option linter.unusedVariables false
set_option maxRecDepth 100000 in
set_option maxHeartbeats 4000000 in
theorem walk (f : ux.Rob) (Af : Option Addr) (nf cf : Nat)  (w : World) (hf : ux.RR ux.rowNf w 0 w.heap.size (.slice Af nf cf) f.Pending)  :
    Calls Try.prog 9 #[ux.robV f (.slice Af nf cf)] w fun e w' => e = .returned (.bool true) ∧ Below w.heap.size w w' := by
  have B1 := Lib.hid (Below.refl w.heap.size w)
  have F2 := Lib.hid (ro.rob_of (f := f) hf)
  clear hf
  go_enter Try.func9, Try.ntmps9
  go_upto_region 1 with fail
  obtain ⟨we, hW⟩ : ∃ w0, w.alloc (.cells #[.int .i64 f.Start, .slice Af nf cf] 55) = w0 := ⟨_, rfl⟩
  rw [hW]
  have hb : Below w.heap.size w we := by rw [← hW]; exact (Below.refl _ _).alloc (by simp <;> omega) _
  have hz9 : w.heap.size + 1 ≤ we.heap.size := by rw [← hW]; simp
  have Z3 := Lib.hid hz9
  clear hz9
  have B4 := Lib.hid (B1.out.trans (hb.mono B1.out.size))
  have Z5 := Lib.hid hb.size
  have F6 := Lib.hid (F2.out.below hb)
  clear hb B1 F2
  have X7 := Lib.hid (show bx.Bx 55 we (w.heap.size) #[.int .i64 f.Start, .slice Af nf cf] by
      rw [← hW]
      have hh := bx.Bx.made 55 w #[.int .i64 f.Start, .slice Af nf cf]
      exact hh)
  clear hW
  have ck8_0 : (we).cell? ⟨w.heap.size, 0, none⟩ = some (.int .i64 f.Start) := X7.out.cell 0
  have ck8_1 : (we).cell? ⟨w.heap.size, 1, none⟩ = some (.slice Af nf cf) := X7.out.cell 1
  go_wp2_with fail
  clear ck8_0 ck8_1
  (with_reducible refine (ux.szReorderBuffer (1048576) (by omega) F6.out).mono ?_)
  rintro e w9 hp
  obtain ⟨r10, rfl, H11, hb⟩ := hp.parts
  have B12 := Lib.hid (B4.out.trans (hb.mono B4.out.size))
  have Z13 := Lib.hid hb.size
  have F14 := Lib.hid (F6.out.below hb)
  have F15 := Lib.hid (X7.out.below hb)
  clear hb B4 F6 X7
  rcases H11 with ⟨hr, _⟩ | ⟨hr, ht⟩
  · subst hr
    go_wp2_with fail
    go_ret
    exact ⟨rfl, B12.out⟩
  · have Q16 := Lib.hid (show 0 ≤ r10 ∧ r10 ≤ 1048576 by have := (by omega); omega)
    have S17 := Lib.hid (show ux.rob.sz f ≤ 67108864 by have := (by omega); omega)
    have S18 := Lib.hid (show ux.rob.sz f ≤ 1048576 by have := (by omega); omega)
    have ngr10 : ¬ r10 < 0 := by have := Q16.out; omega
    clear hr ht
    obtain ⟨⟨c9, b9⟩, hx9⟩ : ∃ x, ro.ack ⟨f.Start, f.Pending⟩ = x := ⟨_, rfl⟩
    have HX := Lib.hid hx9
    clear hx9
    have ck8_0 : (w9).cell? ⟨w.heap.size, 0, none⟩ = some (.int .i64 f.Start) := F15.out.cell 0
    have ck8_1 : (w9).cell? ⟨w.heap.size, 1, none⟩ = some (.slice Af nf cf) := F15.out.cell 1
    go_wp2_with fail
    clear ck8_0 ck8_1
    (with_reducible refine (ux.toReorderBuffer F14.out S17.out).mono ?_)
    rintro e w19 hp
    obtain ⟨v24, fp23, rfl, ho, hb⟩ := hp.parts
    clear hp
    obtain ⟨A20, n21, c22, f9, rfl, _, _, _⟩ := ux.rob_o ho
    have F25 := Lib.hid ho
    clear ho
    have B26 := Lib.hid (B12.out.trans (hb.mono B12.out.size))
    have Z27 := Lib.hid hb.size
    have F28 := Lib.hid (F14.out.below hb)
    have F29 := Lib.hid (F15.out.below hb)
    clear hb B12 F14 F15
    have ck8_0 : (w19).cell? ⟨w.heap.size, 0, none⟩ = some (.int .i64 f.Start) := F29.out.cell 0
    have ck8_1 : (w19).cell? ⟨w.heap.size, 1, none⟩ = some (.slice Af nf cf) := F29.out.cell 1
    go_wp2_with fail
    clear ck8_0 ck8_1
    (with_reducible refine (ro.specAck f.Start f.Pending _ _ A20 n21 c22 _ (ro.rob_rd F25.out.rd)).mono ?_)
    rintro e w30 hp
    obtain ⟨rfl, hb⟩ := ro.ak_parts HX.out hp
    clear hp
    have B31 := Lib.hid (B26.out.trans (hb.mono B26.out.size))
    have Z32 := Lib.hid hb.size
    have F33 := Lib.hid (F28.out.below hb)
    have F34 := Lib.hid (F25.out.below hb)
    have F35 := Lib.hid (F29.out.below hb)
    clear hb B26 F28 F25 F29
    clear F34
    obtain ⟨V36, hV36⟩ : ∃ x, x = w30.alloc (.cells #[.int .i64 c9, .int .i64 b9] 42) := ⟨_, rfl⟩
    have hb : Below w30.heap.size w30 V36 := by rw [hV36]; exact bx.below_box _ _
    have hz9 : w30.heap.size + 1 ≤ V36.heap.size := by rw [hV36]; simp
    have Z37 := Lib.hid hz9
    clear hz9
    have B38 := Lib.hid (B31.out.trans (hb.mono B31.out.size))
    have Z39 := Lib.hid hb.size
    have F40 := Lib.hid (F33.out.below hb)
    have F41 := Lib.hid (F35.out.below hb)
    clear hb B31 F33 F35
    have X42 := Lib.hid (show bx.Bx 42 V36 w30.heap.size #[.int .i64 c9, .int .i64 b9] by rw [hV36]; exact bx.Bx.made _ _ _)
    have ck8_0 : (w30.alloc (.cells #[.int .i64 c9, .int .i64 b9] 42)).cell? ⟨w.heap.size, 0, none⟩ = some (.int .i64 f.Start) := by rw [← hV36]; exact F41.out.cell 0
    have ck8_1 : (w30.alloc (.cells #[.int .i64 c9, .int .i64 b9] 42)).cell? ⟨w.heap.size, 1, none⟩ = some (.slice Af nf cf) := by rw [← hV36]; exact F41.out.cell 1
    have ck43_0 : (w30.alloc (.cells #[.int .i64 c9, .int .i64 b9] 42)).cell? ⟨w30.heap.size, 0, none⟩ = some (.int .i64 c9) := by rw [← hV36]; exact X42.out.cell 0
    have ck43_1 : (w30.alloc (.cells #[.int .i64 c9, .int .i64 b9] 42)).cell? ⟨w30.heap.size, 1, none⟩ = some (.int .i64 b9) := by rw [← hV36]; exact X42.out.cell 1
    go_wp2_with fail
    rw [← hV36]
    clear hV36 ck8_0 ck8_1 ck43_0 ck43_1
    (with_reducible refine (ux.toReorderBuffer F40.out S17.out).mono ?_)
    rintro e w44 hp
    obtain ⟨v49, fp48, rfl, ho, hb⟩ := hp.parts
    clear hp
    obtain ⟨A45, n46, c47, f9, rfl, _, _, _⟩ := ux.rob_o ho
    have F50 := Lib.hid ho
    clear ho
    have B51 := Lib.hid (B38.out.trans (hb.mono B38.out.size))
    have Z52 := Lib.hid hb.size
    have F53 := Lib.hid (F40.out.below hb)
    have F54 := Lib.hid (F41.out.below hb)
    have F55 := Lib.hid (X42.out.below hb)
    clear hb B38 F40 F41 X42
    obtain ⟨V56, hV56⟩ : ∃ x, x = w44.alloc (.cells #[.int .i64 f.Start, .slice A45 n46 c47] 31) := ⟨_, rfl⟩
    have hb : Below w44.heap.size w44 V56 := by rw [hV56]; exact bx.below_box _ _
    have hz9 : w44.heap.size + 1 ≤ V56.heap.size := by rw [hV56]; simp
    have Z57 := Lib.hid hz9
    clear hz9
    have B58 := Lib.hid (B51.out.trans (hb.mono B51.out.size))
    have Z59 := Lib.hid hb.size
    have F60 := Lib.hid (F53.out.below hb)
    have F61 := Lib.hid (F50.out.below hb)
    have F62 := Lib.hid (F54.out.below hb)
    have F63 := Lib.hid (F55.out.below hb)
    clear hb B51 F53 F50 F54 F55
    have X64 := Lib.hid (show bx.Bx 31 V56 w44.heap.size #[.int .i64 f.Start, .slice A45 n46 c47] by rw [hV56]; exact bx.Bx.made _ _ _)
    have ck8_0 : (w44.alloc (.cells #[.int .i64 f.Start, .slice A45 n46 c47] 31)).cell? ⟨w.heap.size, 0, none⟩ = some (.int .i64 f.Start) := by rw [← hV56]; exact F62.out.cell 0
    have ck8_1 : (w44.alloc (.cells #[.int .i64 f.Start, .slice A45 n46 c47] 31)).cell? ⟨w.heap.size, 1, none⟩ = some (.slice Af nf cf) := by rw [← hV56]; exact F62.out.cell 1
    have ck43_0 : (w44.alloc (.cells #[.int .i64 f.Start, .slice A45 n46 c47] 31)).cell? ⟨w30.heap.size, 0, none⟩ = some (.int .i64 c9) := by rw [← hV56]; exact F63.out.cell 0
    have ck43_1 : (w44.alloc (.cells #[.int .i64 f.Start, .slice A45 n46 c47] 31)).cell? ⟨w30.heap.size, 1, none⟩ = some (.int .i64 b9) := by rw [← hV56]; exact F63.out.cell 1
    have ck65_0 : (w44.alloc (.cells #[.int .i64 f.Start, .slice A45 n46 c47] 31)).cell? ⟨w44.heap.size, 0, none⟩ = some (.int .i64 f.Start) := by rw [← hV56]; exact X64.out.cell 0
    have ck65_1 : (w44.alloc (.cells #[.int .i64 f.Start, .slice A45 n46 c47] 31)).cell? ⟨w44.heap.size, 1, none⟩ = some (.slice A45 n46 c47) := by rw [← hV56]; exact X64.out.cell 1
    go_wp2_with fail
    rw [← hV56]
    clear hV56 ck8_0 ck8_1 ck43_0 ck43_1 ck65_0 ck65_1
    (with_reducible refine (ro.implAck f.Start f.Pending _ _ A45 n46 c47 _ (ro.rob_rd F61.out.rd)).mono ?_)
    rintro e w66 hp
    obtain ⟨rfl, hb⟩ := ro.ak_parts HX.out hp
    clear hp
    have B67 := Lib.hid (B58.out.trans (hb.mono B58.out.size))
    have Z68 := Lib.hid hb.size
    have F69 := Lib.hid (F60.out.below hb)
    have F70 := Lib.hid (F61.out.below hb)
    have F71 := Lib.hid (F62.out.below hb)
    have F72 := Lib.hid (F63.out.below hb)
    have F73 := Lib.hid (X64.out.below hb)
    clear hb B58 F60 F61 F62 F63 X64
    obtain ⟨V74, hV74⟩ : ∃ x, x = w66.alloc (.cells #[.int .i64 c9, .int .i64 b9] 42) := ⟨_, rfl⟩
    have hb : Below w66.heap.size w66 V74 := by rw [hV74]; exact bx.below_box _ _
    have hz9 : w66.heap.size + 1 ≤ V74.heap.size := by rw [hV74]; simp
    have Z75 := Lib.hid hz9
    clear hz9
    have B76 := Lib.hid (B67.out.trans (hb.mono B67.out.size))
    have Z77 := Lib.hid hb.size
    have F78 := Lib.hid (F69.out.below hb)
    have F79 := Lib.hid (F70.out.below hb)
    have F80 := Lib.hid (F71.out.below hb)
    have F81 := Lib.hid (F72.out.below hb)
    have F82 := Lib.hid (F73.out.below hb)
    clear hb B67 F69 F70 F71 F72 F73
    have X83 := Lib.hid (show bx.Bx 42 V74 w66.heap.size #[.int .i64 c9, .int .i64 b9] by rw [hV74]; exact bx.Bx.made _ _ _)
    have ck8_0 : (w66.alloc (.cells #[.int .i64 c9, .int .i64 b9] 42)).cell? ⟨w.heap.size, 0, none⟩ = some (.int .i64 f.Start) := by rw [← hV74]; exact F80.out.cell 0
    have ck8_1 : (w66.alloc (.cells #[.int .i64 c9, .int .i64 b9] 42)).cell? ⟨w.heap.size, 1, none⟩ = some (.slice Af nf cf) := by rw [← hV74]; exact F80.out.cell 1
    have ck43_0 : (w66.alloc (.cells #[.int .i64 c9, .int .i64 b9] 42)).cell? ⟨w30.heap.size, 0, none⟩ = some (.int .i64 c9) := by rw [← hV74]; exact F81.out.cell 0
    have ck43_1 : (w66.alloc (.cells #[.int .i64 c9, .int .i64 b9] 42)).cell? ⟨w30.heap.size, 1, none⟩ = some (.int .i64 b9) := by rw [← hV74]; exact F81.out.cell 1
    have ck65_0 : (w66.alloc (.cells #[.int .i64 c9, .int .i64 b9] 42)).cell? ⟨w44.heap.size, 0, none⟩ = some (.int .i64 f.Start) := by rw [← hV74]; exact F82.out.cell 0
    have ck65_1 : (w66.alloc (.cells #[.int .i64 c9, .int .i64 b9] 42)).cell? ⟨w44.heap.size, 1, none⟩ = some (.slice A45 n46 c47) := by rw [← hV74]; exact F82.out.cell 1
    have ck84_0 : (w66.alloc (.cells #[.int .i64 c9, .int .i64 b9] 42)).cell? ⟨w66.heap.size, 0, none⟩ = some (.int .i64 c9) := by rw [← hV74]; exact X83.out.cell 0
    have ck84_1 : (w66.alloc (.cells #[.int .i64 c9, .int .i64 b9] 42)).cell? ⟨w66.heap.size, 1, none⟩ = some (.int .i64 b9) := by rw [← hV74]; exact X83.out.cell 1
    go_wp2_with fail
    rw [← hV74]
    clear hV74 ck8_0 ck8_1 ck43_0 ck43_1 ck65_0 ck65_1 ck84_0 ck84_1
    (with_reducible refine (ro.eqA_yes c9 b9 _).mono ?_)
    rintro e w85 hp
    obtain ⟨rfl, hb⟩ := hp
    have B86 := Lib.hid (B76.out.trans (hb.mono B76.out.size))
    have Z87 := Lib.hid hb.size
    have F88 := Lib.hid (F78.out.below hb)
    have F89 := Lib.hid (F79.out.below hb)
    have F90 := Lib.hid (F80.out.below hb)
    have F91 := Lib.hid (F81.out.below hb)
    have F92 := Lib.hid (F82.out.below hb)
    have F93 := Lib.hid (X83.out.below hb)
    clear hb B76 F78 F79 F80 F81 F82 X83
    have ck8_0 : (w85).cell? ⟨w.heap.size, 0, none⟩ = some (.int .i64 f.Start) := F90.out.cell 0
    have ck8_1 : (w85).cell? ⟨w.heap.size, 1, none⟩ = some (.slice Af nf cf) := F90.out.cell 1
    have ck43_0 : (w85).cell? ⟨w30.heap.size, 0, none⟩ = some (.int .i64 c9) := F91.out.cell 0
    have ck43_1 : (w85).cell? ⟨w30.heap.size, 1, none⟩ = some (.int .i64 b9) := F91.out.cell 1
    have ck65_0 : (w85).cell? ⟨w44.heap.size, 0, none⟩ = some (.int .i64 f.Start) := F92.out.cell 0
    have ck65_1 : (w85).cell? ⟨w44.heap.size, 1, none⟩ = some (.slice A45 n46 c47) := F92.out.cell 1
    have ck84_0 : (w85).cell? ⟨w66.heap.size, 0, none⟩ = some (.int .i64 c9) := F93.out.cell 0
    have ck84_1 : (w85).cell? ⟨w66.heap.size, 1, none⟩ = some (.int .i64 b9) := F93.out.cell 1
    go_wp2_with fail
    clear ck8_0 ck8_1 ck43_0 ck43_1 ck65_0 ck65_1 ck84_0 ck84_1
    have hb : Below w85.heap.size w85 w85.drew := own.below_drew (Below.refl _ _)
    have B94 := Lib.hid (B86.out.trans (hb.mono B86.out.size))
    have Z95 := Lib.hid hb.size
    have F96 := Lib.hid (F88.out.below hb)
    have F97 := Lib.hid (F89.out.below hb)
    have F98 := Lib.hid (F90.out.below hb)
    have F99 := Lib.hid (F91.out.below hb)
    have F100 := Lib.hid (F92.out.below hb)
    have F101 := Lib.hid (F93.out.below hb)
    clear hb B86 F88 F89 F90 F91 F92 F93
    have cak65_0 : (w85.drew).cell? ⟨w44.heap.size, 0, none⟩ = some (.int .i64 f.Start) := F100.out.cell 0
    have cak65_1 : (w85.drew).cell? ⟨w44.heap.size, 1, none⟩ = some (.slice A45 n46 c47) := F100.out.cell 1
    have cak8_0 : (w85.drew).cell? ⟨w.heap.size, 0, none⟩ = some (.int .i64 f.Start) := F98.out.cell 0
    have cak8_1 : (w85.drew).cell? ⟨w.heap.size, 1, none⟩ = some (.slice Af nf cf) := F98.out.cell 1
    go_region_held3 (fun w' => w'.cell? ⟨w44.heap.size, 0, none⟩ = some (.int .i64 f.Start) ∧ w'.cell? ⟨w44.heap.size, 1, none⟩ = some (.slice A45 n46 c47) ∧ w'.cell? ⟨w.heap.size, 0, none⟩ = some (.int .i64 f.Start) ∧ w'.cell? ⟨w.heap.size, 1, none⟩ = some (.slice Af nf cf)) (first | (with_reducible exact ⟨cak65_0, cak65_1, cak8_0, cak8_1⟩) | (with_reducible exact ⟨cbk65_0, cbk65_1, cbk8_0, cbk8_1⟩) | (with_reducible exact ⟨cdk65_0, cdk65_1, cdk8_0, cdk8_1⟩))
      (first
      | (go_at_call 36; refine (ux.toReorderBuffer F96.out S17.out).mono ?_; rintro e w102 hp; obtain ⟨v107, fp106, rfl, ho, hb⟩ := hp.parts; clear hp; obtain ⟨A103, n104, c105, f9, rfl, _, _, _⟩ := ux.rob_o ho; have F108 := Lib.hid ho; clear ho; have B109 := Lib.hid (B94.out.trans (hb.mono B94.out.size)); have Z110 := Lib.hid hb.size; have F111 := Lib.hid (F96.out.below hb); have F112 := Lib.hid (F97.out.below hb); have F113 := Lib.hid (F98.out.below hb); have F114 := Lib.hid (F99.out.below hb); have F115 := Lib.hid (F100.out.below hb); have F116 := Lib.hid (F101.out.below hb); clear hb B94 F96 F97 F98 F99 F100 F101; have cbk65_0 : (w102).cell? ⟨w44.heap.size, 0, none⟩ = some (.int .i64 f.Start) := F115.out.cell 0; have cbk65_1 : (w102).cell? ⟨w44.heap.size, 1, none⟩ = some (.slice A45 n46 c47) := F115.out.cell 1; have cbk8_0 : (w102).cell? ⟨w.heap.size, 0, none⟩ = some (.int .i64 f.Start) := F113.out.cell 0; have cbk8_1 : (w102).cell? ⟨w.heap.size, 1, none⟩ = some (.slice Af nf cf) := F113.out.cell 1)
      | (go_at_call 32; refine (ux.eqReorderBuffer F112.out.rd F108.out.rd).mono ?_; rintro e w117 hp; obtain ⟨rfl, hb⟩ := bx.b_parts rfl hp; clear hp; have B118 := Lib.hid (B109.out.trans (hb.mono B109.out.size)); have Z119 := Lib.hid hb.size; have F120 := Lib.hid (F111.out.below hb); have F121 := Lib.hid (F112.out.below hb); have F122 := Lib.hid (F108.out.below hb); have F123 := Lib.hid (F113.out.below hb); have F124 := Lib.hid (F114.out.below hb); have F125 := Lib.hid (F115.out.below hb); have F126 := Lib.hid (F116.out.below hb); clear hb B109 F111 F112 F108 F113 F114 F115 F116; have cdk65_0 : (w117).cell? ⟨w44.heap.size, 0, none⟩ = some (.int .i64 f.Start) := F125.out.cell 0; have cdk65_1 : (w117).cell? ⟨w44.heap.size, 1, none⟩ = some (.slice A45 n46 c47) := F125.out.cell 1; have cdk8_0 : (w117).cell? ⟨w.heap.size, 0, none⟩ = some (.int .i64 f.Start) := F123.out.cell 0; have cdk8_1 : (w117).cell? ⟨w.heap.size, 1, none⟩ = some (.slice Af nf cf) := F123.out.cell 1))
    clear cak65_0 cak65_1 cak8_0 cak8_1 cbk65_0 cbk65_1 cbk8_0 cbk8_1 cdk65_0 cdk65_1 cdk8_0 cdk8_1
    clear F122
    have ck8_0 : (w117).cell? ⟨w.heap.size, 0, none⟩ = some (.int .i64 f.Start) := F123.out.cell 0
    have ck8_1 : (w117).cell? ⟨w.heap.size, 1, none⟩ = some (.slice Af nf cf) := F123.out.cell 1
    have ck43_0 : (w117).cell? ⟨w30.heap.size, 0, none⟩ = some (.int .i64 c9) := F124.out.cell 0
    have ck43_1 : (w117).cell? ⟨w30.heap.size, 1, none⟩ = some (.int .i64 b9) := F124.out.cell 1
    have ck65_0 : (w117).cell? ⟨w44.heap.size, 0, none⟩ = some (.int .i64 f.Start) := F125.out.cell 0
    have ck65_1 : (w117).cell? ⟨w44.heap.size, 1, none⟩ = some (.slice A45 n46 c47) := F125.out.cell 1
    have ck84_0 : (w117).cell? ⟨w66.heap.size, 0, none⟩ = some (.int .i64 c9) := F126.out.cell 0
    have ck84_1 : (w117).cell? ⟨w66.heap.size, 1, none⟩ = some (.int .i64 b9) := F126.out.cell 1
    go_wp2_with fail
    clear ck8_0 ck8_1 ck43_0 ck43_1 ck65_0 ck65_1 ck84_0 ck84_1
    go_ret
    exact ⟨rfl, B118.out⟩
theorem walkA (f0 : Int) (Af : Option Addr) (nf cf : Nat) (zf : List ux.Nf)  (w : World) (hf : opm.Nfq w 0 w.heap.size Af nf cf zf)  :
    Calls Try.prog 9 #[.agg #[.int .i64 f0, .slice Af nf cf]] w fun e w' => e = .returned (.bool true) ∧ Below w.heap.size w w' :=
  walk ⟨f0, zf⟩ Af nf cf w hf
end Go.Proofs.Ytmmhleobgpgliaa.xExactBlockAckOf
