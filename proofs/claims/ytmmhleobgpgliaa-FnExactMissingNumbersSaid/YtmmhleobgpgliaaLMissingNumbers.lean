/- The walk of FnExactMissingNumbers. Condition: none. -/
import Derived.Test.YtmmhleobgpgliaaRsz
import Derived.Test.YtmmhleobgpgliaaOpf
import Derived.Test.YtmmhleobgpgliaaMs1
import Derived.Test.YtmmhleobgpgliaaMs2
import Derived.Test.YtmmhleobgpgliaaUi
namespace Go.Proofs.Ytmmhleobgpgliaa.xExactMissingNumbers
open Go.RowKit sl harn bx
set_option linter.unusedVariables false
set_option maxRecDepth 100000 in
set_option maxHeartbeats 4000000 in
theorem walk (f : ux.Rob) (Af : Option Addr) (nf cf : Nat)  (w : World) (hf : ux.RR ux.rowNf w 0 w.heap.size (.slice Af nf cf) f.Pending)  :
    Calls Try.prog 10 #[ux.robV f (.slice Af nf cf)] w fun e w' => e = .returned (.bool true) ∧ Below w.heap.size w w' := by
  have B1 := Lib.hid (Below.refl w.heap.size w)
  have F2 := Lib.hid (ro.rob_of (f := f) hf)
  clear hf
  go_enter Try.func10, Try.ntmps10
  go_upto_region 1 with fail
  obtain ⟨we, hW⟩ : ∃ w0, w.alloc (.cells #[.int .i64 f.Start, .slice Af nf cf] 55) = w0 := ⟨_, rfl⟩
  rw [hW]
  have hb : Below w.heap.size w we := by rw [← hW]; exact (Below.refl _ _).alloc (by simp <;> omega) _
  have hz9 : w.heap.size + 1 ≤ we.heap.size := by rw [← hW]; simp
  have Z3 := Lib.hid hz9
  clear hz9
  have B4 := Lib.hid (B1.out.trans (hb.mono B1.out.size))
  have Z5 := Lib.hid hb.size
  have F6 := Lib.hid (F2.out.below hb)
  clear hb B1 F2
  have X7 := Lib.hid (show bx.Bx 55 we (w.heap.size) #[.int .i64 f.Start, .slice Af nf cf] by
      rw [← hW]
      have hh := bx.Bx.made 55 w #[.int .i64 f.Start, .slice Af nf cf]
      exact hh)
  clear hW
  have ck8_0 : (we).cell? ⟨w.heap.size, 0, none⟩ = some (.int .i64 f.Start) := X7.out.cell 0
  have ck8_1 : (we).cell? ⟨w.heap.size, 1, none⟩ = some (.slice Af nf cf) := X7.out.cell 1
  go_wp2_with fail
  clear ck8_0 ck8_1
  (with_reducible refine (ux.szReorderBuffer (1048576) (by omega) F6.out).mono ?_)
  rintro e w9 hp
  obtain ⟨r10, rfl, H11, hb⟩ := hp.parts
  have B12 := Lib.hid (B4.out.trans (hb.mono B4.out.size))
  have Z13 := Lib.hid hb.size
  have F14 := Lib.hid (F6.out.below hb)
  have F15 := Lib.hid (X7.out.below hb)
  clear hb B4 F6 X7
  rcases H11 with ⟨hr, _⟩ | ⟨hr, ht⟩
  · subst hr
    go_wp2_with fail
    go_ret
    exact ⟨rfl, B12.out⟩
  · have Q16 := Lib.hid (show 0 ≤ r10 ∧ r10 ≤ 1048576 by have := (by omega); omega)
    have S17 := Lib.hid (show ux.rob.sz f ≤ 67108864 by have := (by omega); omega)
    have S18 := Lib.hid (show ux.rob.sz f ≤ 1048576 by have := (by omega); omega)
    have ngr10 : ¬ r10 < 0 := by have := Q16.out; omega
    clear hr ht
    obtain ⟨l9, hx9⟩ : ∃ x, ro.msn ⟨f.Start, f.Pending⟩ = x := ⟨_, rfl⟩
    have HX := Lib.hid hx9
    have SX := Lib.hid (show ux.ints.sz l9 ≤ 67108864 by rw [← hx9]; show (ro.msn _).length ≤ _; have := ro.msn_len ⟨f.Start, f.Pending⟩; omega)
    clear hx9
    have ck8_0 : (w9).cell? ⟨w.heap.size, 0, none⟩ = some (.int .i64 f.Start) := F15.out.cell 0
    have ck8_1 : (w9).cell? ⟨w.heap.size, 1, none⟩ = some (.slice Af nf cf) := F15.out.cell 1
    go_wp2_with fail
    clear ck8_0 ck8_1
    (with_reducible refine (ux.toReorderBuffer F14.out S17.out).mono ?_)
    rintro e w19 hp
    obtain ⟨v24, fp23, rfl, ho, hb⟩ := hp.parts
    clear hp
    obtain ⟨A20, n21, c22, f9, rfl, _, _, _⟩ := ux.rob_o ho
    have F25 := Lib.hid ho
    clear ho
    have B26 := Lib.hid (B12.out.trans (hb.mono B12.out.size))
    have Z27 := Lib.hid hb.size
    have F28 := Lib.hid (F14.out.below hb)
    have F29 := Lib.hid (F15.out.below hb)
    clear hb B12 F14 F15
    have ck8_0 : (w19).cell? ⟨w.heap.size, 0, none⟩ = some (.int .i64 f.Start) := F29.out.cell 0
    have ck8_1 : (w19).cell? ⟨w.heap.size, 1, none⟩ = some (.slice Af nf cf) := F29.out.cell 1
    go_wp2_with fail
    clear ck8_0 ck8_1
    (with_reducible refine (HX.out ▸ ro.specMs f.Start f.Pending _ _ A20 n21 c22 _ (ro.rob_rd F25.out.rd)).mono ?_)
    rintro e w30 hp
    obtain ⟨A31, n32, c33, rfl, ho, hb⟩ := hp
    have ho2 := ux.numw_of ho
    clear ho
    have F34 := Lib.hid ho2
    clear ho2
    have B35 := Lib.hid (B26.out.trans (hb.mono B26.out.size))
    have Z36 := Lib.hid hb.size
    have F37 := Lib.hid (F28.out.below hb)
    have F38 := Lib.hid (F25.out.below hb)
    have F39 := Lib.hid (F29.out.below hb)
    clear hb B26 F28 F25 F29
    clear F38
    have ck8_0 : (w30).cell? ⟨w.heap.size, 0, none⟩ = some (.int .i64 f.Start) := F39.out.cell 0
    have ck8_1 : (w30).cell? ⟨w.heap.size, 1, none⟩ = some (.slice Af nf cf) := F39.out.cell 1
    go_wp2_with fail
    clear ck8_0 ck8_1
    (with_reducible refine (ux.toReorderBuffer F37.out S17.out).mono ?_)
    rintro e w40 hp
    obtain ⟨v45, fp44, rfl, ho, hb⟩ := hp.parts
    clear hp
    obtain ⟨A41, n42, c43, f9, rfl, _, _, _⟩ := ux.rob_o ho
    have F46 := Lib.hid ho
    clear ho
    have B47 := Lib.hid (B35.out.trans (hb.mono B35.out.size))
    have Z48 := Lib.hid hb.size
    have F49 := Lib.hid (F37.out.below hb)
    have F50 := Lib.hid (F34.out.below hb)
    have F51 := Lib.hid (F39.out.below hb)
    clear hb B35 F37 F34 F39
    obtain ⟨V52, hV52⟩ : ∃ x, x = w40.alloc (.cells #[.int .i64 f.Start, .slice A41 n42 c43] 31) := ⟨_, rfl⟩
    have hb : Below w40.heap.size w40 V52 := by rw [hV52]; exact bx.below_box _ _
    have hz9 : w40.heap.size + 1 ≤ V52.heap.size := by rw [hV52]; simp
    have Z53 := Lib.hid hz9
    clear hz9
    have B54 := Lib.hid (B47.out.trans (hb.mono B47.out.size))
    have Z55 := Lib.hid hb.size
    have F56 := Lib.hid (F49.out.below hb)
    have F57 := Lib.hid (F50.out.below hb)
    have F58 := Lib.hid (F46.out.below hb)
    have F59 := Lib.hid (F51.out.below hb)
    clear hb B47 F49 F50 F46 F51
    have X60 := Lib.hid (show bx.Bx 31 V52 w40.heap.size #[.int .i64 f.Start, .slice A41 n42 c43] by rw [hV52]; exact bx.Bx.made _ _ _)
    have ck8_0 : (w40.alloc (.cells #[.int .i64 f.Start, .slice A41 n42 c43] 31)).cell? ⟨w.heap.size, 0, none⟩ = some (.int .i64 f.Start) := by rw [← hV52]; exact F59.out.cell 0
    have ck8_1 : (w40.alloc (.cells #[.int .i64 f.Start, .slice A41 n42 c43] 31)).cell? ⟨w.heap.size, 1, none⟩ = some (.slice Af nf cf) := by rw [← hV52]; exact F59.out.cell 1
    have ck61_0 : (w40.alloc (.cells #[.int .i64 f.Start, .slice A41 n42 c43] 31)).cell? ⟨w40.heap.size, 0, none⟩ = some (.int .i64 f.Start) := by rw [← hV52]; exact X60.out.cell 0
    have ck61_1 : (w40.alloc (.cells #[.int .i64 f.Start, .slice A41 n42 c43] 31)).cell? ⟨w40.heap.size, 1, none⟩ = some (.slice A41 n42 c43) := by rw [← hV52]; exact X60.out.cell 1
    go_wp2_with fail
    rw [← hV52]
    clear hV52 ck8_0 ck8_1 ck61_0 ck61_1
    (with_reducible refine (HX.out ▸ ro.implMs f.Start f.Pending _ _ A41 n42 c43 _ (ro.rob_rd F58.out.rd)).mono ?_)
    rintro e w62 hp
    obtain ⟨A63, n64, c65, rfl, ho, hb⟩ := hp
    have ho2 := ux.numw_of ho
    clear ho
    have F66 := Lib.hid ho2
    clear ho2
    have B67 := Lib.hid (B54.out.trans (hb.mono B54.out.size))
    have Z68 := Lib.hid hb.size
    have F69 := Lib.hid (F56.out.below hb)
    have F70 := Lib.hid (F57.out.below hb)
    have F71 := Lib.hid (F58.out.below hb)
    have F72 := Lib.hid (F59.out.below hb)
    have F73 := Lib.hid (X60.out.below hb)
    clear hb B54 F56 F57 F58 F59 X60
    have ck8_0 : (w62).cell? ⟨w.heap.size, 0, none⟩ = some (.int .i64 f.Start) := F72.out.cell 0
    have ck8_1 : (w62).cell? ⟨w.heap.size, 1, none⟩ = some (.slice Af nf cf) := F72.out.cell 1
    have ck61_0 : (w62).cell? ⟨w40.heap.size, 0, none⟩ = some (.int .i64 f.Start) := F73.out.cell 0
    have ck61_1 : (w62).cell? ⟨w40.heap.size, 1, none⟩ = some (.slice A41 n42 c43) := F73.out.cell 1
    go_wp2_with fail
    clear ck8_0 ck8_1 ck61_0 ck61_1
    (with_reducible refine (ux.eqIntS F66.out.rd F70.out.rd).mono ?_)
    rintro e w74 hp
    obtain ⟨rfl, hb⟩ := bx.b_parts rfl hp
    clear hp
    have B75 := Lib.hid (B67.out.trans (hb.mono B67.out.size))
    have Z76 := Lib.hid hb.size
    have F77 := Lib.hid (F69.out.below hb)
    have F78 := Lib.hid (F70.out.below hb)
    have F79 := Lib.hid (F71.out.below hb)
    have F80 := Lib.hid (F66.out.below hb)
    have F81 := Lib.hid (F72.out.below hb)
    have F82 := Lib.hid (F73.out.below hb)
    clear hb B67 F69 F70 F71 F66 F72 F73
    have ck8_0 : (w74).cell? ⟨w.heap.size, 0, none⟩ = some (.int .i64 f.Start) := F81.out.cell 0
    have ck8_1 : (w74).cell? ⟨w.heap.size, 1, none⟩ = some (.slice Af nf cf) := F81.out.cell 1
    have ck61_0 : (w74).cell? ⟨w40.heap.size, 0, none⟩ = some (.int .i64 f.Start) := F82.out.cell 0
    have ck61_1 : (w74).cell? ⟨w40.heap.size, 1, none⟩ = some (.slice A41 n42 c43) := F82.out.cell 1
    go_wp2_with fail
    clear ck8_0 ck8_1 ck61_0 ck61_1
    have hb : Below w74.heap.size w74 w74.drew := own.below_drew (Below.refl _ _)
    have B83 := Lib.hid (B75.out.trans (hb.mono B75.out.size))
    have Z84 := Lib.hid hb.size
    have F85 := Lib.hid (F77.out.below hb)
    have F86 := Lib.hid (F78.out.below hb)
    have F87 := Lib.hid (F79.out.below hb)
    have F88 := Lib.hid (F80.out.below hb)
    have F89 := Lib.hid (F81.out.below hb)
    have F90 := Lib.hid (F82.out.below hb)
    clear hb B75 F77 F78 F79 F80 F81 F82
    have cak61_0 : (w74.drew).cell? ⟨w40.heap.size, 0, none⟩ = some (.int .i64 f.Start) := F90.out.cell 0
    have cak61_1 : (w74.drew).cell? ⟨w40.heap.size, 1, none⟩ = some (.slice A41 n42 c43) := F90.out.cell 1
    have cak8_0 : (w74.drew).cell? ⟨w.heap.size, 0, none⟩ = some (.int .i64 f.Start) := F89.out.cell 0
    have cak8_1 : (w74.drew).cell? ⟨w.heap.size, 1, none⟩ = some (.slice Af nf cf) := F89.out.cell 1
    go_region_held3 (fun w' => w'.cell? ⟨w40.heap.size, 0, none⟩ = some (.int .i64 f.Start) ∧ w'.cell? ⟨w40.heap.size, 1, none⟩ = some (.slice A41 n42 c43) ∧ w'.cell? ⟨w.heap.size, 0, none⟩ = some (.int .i64 f.Start) ∧ w'.cell? ⟨w.heap.size, 1, none⟩ = some (.slice Af nf cf)) (first | (with_reducible exact ⟨cak61_0, cak61_1, cak8_0, cak8_1⟩) | (with_reducible exact ⟨cbk61_0, cbk61_1, cbk8_0, cbk8_1⟩) | (with_reducible exact ⟨cdk61_0, cdk61_1, cdk8_0, cdk8_1⟩))
      (first
      | (go_at_call 36; refine (ux.toReorderBuffer F85.out S17.out).mono ?_; rintro e w91 hp; obtain ⟨v96, fp95, rfl, ho, hb⟩ := hp.parts; clear hp; obtain ⟨A92, n93, c94, f9, rfl, _, _, _⟩ := ux.rob_o ho; have F97 := Lib.hid ho; clear ho; have B98 := Lib.hid (B83.out.trans (hb.mono B83.out.size)); have Z99 := Lib.hid hb.size; have F100 := Lib.hid (F85.out.below hb); have F101 := Lib.hid (F86.out.below hb); have F102 := Lib.hid (F87.out.below hb); have F103 := Lib.hid (F88.out.below hb); have F104 := Lib.hid (F89.out.below hb); have F105 := Lib.hid (F90.out.below hb); clear hb B83 F85 F86 F87 F88 F89 F90; have cbk61_0 : (w91).cell? ⟨w40.heap.size, 0, none⟩ = some (.int .i64 f.Start) := F105.out.cell 0; have cbk61_1 : (w91).cell? ⟨w40.heap.size, 1, none⟩ = some (.slice A41 n42 c43) := F105.out.cell 1; have cbk8_0 : (w91).cell? ⟨w.heap.size, 0, none⟩ = some (.int .i64 f.Start) := F104.out.cell 0; have cbk8_1 : (w91).cell? ⟨w.heap.size, 1, none⟩ = some (.slice Af nf cf) := F104.out.cell 1)
      | (go_at_call 32; refine (ux.eqReorderBuffer F102.out.rd F97.out.rd).mono ?_; rintro e w106 hp; obtain ⟨rfl, hb⟩ := bx.b_parts rfl hp; clear hp; have B107 := Lib.hid (B98.out.trans (hb.mono B98.out.size)); have Z108 := Lib.hid hb.size; have F109 := Lib.hid (F100.out.below hb); have F110 := Lib.hid (F101.out.below hb); have F111 := Lib.hid (F102.out.below hb); have F112 := Lib.hid (F103.out.below hb); have F113 := Lib.hid (F97.out.below hb); have F114 := Lib.hid (F104.out.below hb); have F115 := Lib.hid (F105.out.below hb); clear hb B98 F100 F101 F102 F103 F97 F104 F105; have cdk61_0 : (w106).cell? ⟨w40.heap.size, 0, none⟩ = some (.int .i64 f.Start) := F115.out.cell 0; have cdk61_1 : (w106).cell? ⟨w40.heap.size, 1, none⟩ = some (.slice A41 n42 c43) := F115.out.cell 1; have cdk8_0 : (w106).cell? ⟨w.heap.size, 0, none⟩ = some (.int .i64 f.Start) := F114.out.cell 0; have cdk8_1 : (w106).cell? ⟨w.heap.size, 1, none⟩ = some (.slice Af nf cf) := F114.out.cell 1))
    clear cak61_0 cak61_1 cak8_0 cak8_1 cbk61_0 cbk61_1 cbk8_0 cbk8_1 cdk61_0 cdk61_1 cdk8_0 cdk8_1
    clear F113
    have ck8_0 : (w106).cell? ⟨w.heap.size, 0, none⟩ = some (.int .i64 f.Start) := F114.out.cell 0
    have ck8_1 : (w106).cell? ⟨w.heap.size, 1, none⟩ = some (.slice Af nf cf) := F114.out.cell 1
    have ck61_0 : (w106).cell? ⟨w40.heap.size, 0, none⟩ = some (.int .i64 f.Start) := F115.out.cell 0
    have ck61_1 : (w106).cell? ⟨w40.heap.size, 1, none⟩ = some (.slice A41 n42 c43) := F115.out.cell 1
    go_wp2_with fail
    clear ck8_0 ck8_1 ck61_0 ck61_1
    (with_reducible refine (ux.markReorderBuffer 1 F111.out (by have h1 := ro.rob_bd f; have h2 := (show (0:Int) ≤ 1 ∧ (1:Int) ≤ 4294967360 by omega); have h3 := S17.out; omega) S17.out).mono ?_)
    rintro e w116 hp
    obtain ⟨rfl, ho, hb⟩ := hp.parts
    clear hp
    obtain ⟨k1, hk9⟩ : ∃ k : Int, 1 + (ux.rob_tv f : Nat) = k := ⟨_, rfl⟩
    have Hk1 := Lib.hid hk9
    have Kk1 := Lib.hid (show 0 ≤ k1 ∧ k1 ≤ 1 + 4294967360 by have h1 := ro.rob_bd f; have h2 := (show (0:Int) ≤ 1 ∧ (1:Int) ≤ 4294967360 by omega); have h3 := S17.out; omega)
    have ngk1 : ¬ k1 < 0 := by have := Kk1.out; omega
    (first | rw [hk9] | (change Code.wp _ _ _ _ _; rw [hk9]) | skip)
    clear hk9
    have F117 := Lib.hid ho
    clear ho
    have B118 := Lib.hid (B107.out.trans (ux.ks_bel hb (fun b hb => by have z0 := Z3.out; have z1 := Z5.out; have z2 := Z13.out; have z3 := Z27.out; have z4 := Z36.out; have z5 := Z48.out; have z6 := Z53.out; have z7 := Z55.out; have z8 := Z68.out; have z9 := Z76.out; have z10 := Z84.out; have z11 := Z99.out; have z12 := Z108.out; have zB := B107.out.size; have := F117.out.inn b hb; omega) B107.out.size))
    have Z119 := Lib.hid hb.size
    have F120 := Lib.hid (F109.out.ks hb (fun b h1 h2 h3 => by have z0 := Z3.out; have z1 := Z5.out; have z2 := Z13.out; have z3 := Z27.out; have z4 := Z36.out; have z5 := Z48.out; have z6 := Z53.out; have z7 := Z55.out; have z8 := Z68.out; have z9 := Z76.out; have z10 := Z84.out; have z11 := Z99.out; have z12 := Z108.out; have z13 := Z119.out; have q2 := F117.out.inn b h3; omega))
    have F121 := Lib.hid (F110.out.ks hb (fun b h1 h2 => by have z0 := Z3.out; have z1 := Z5.out; have z2 := Z13.out; have z3 := Z27.out; have z4 := Z36.out; have z5 := Z48.out; have z6 := Z53.out; have z7 := Z55.out; have z8 := Z68.out; have z9 := Z76.out; have z10 := Z84.out; have z11 := Z99.out; have z12 := Z108.out; have z13 := Z119.out; have q1 := F110.out.inn b h1; have q2 := F117.out.inn b h2; omega))
    have F122 := Lib.hid (F112.out.ks hb (fun b h1 h2 => by have z0 := Z3.out; have z1 := Z5.out; have z2 := Z13.out; have z3 := Z27.out; have z4 := Z36.out; have z5 := Z48.out; have z6 := Z53.out; have z7 := Z55.out; have z8 := Z68.out; have z9 := Z76.out; have z10 := Z84.out; have z11 := Z99.out; have z12 := Z108.out; have z13 := Z119.out; have q1 := F112.out.inn b h1; have q2 := F117.out.inn b h2; omega))
    have F123 := Lib.hid (fr.bx_ks F114.out hb (fun h3 => by have z0 := Z3.out; have z1 := Z5.out; have z2 := Z13.out; have z3 := Z27.out; have z4 := Z36.out; have z5 := Z48.out; have z6 := Z53.out; have z7 := Z55.out; have z8 := Z68.out; have z9 := Z76.out; have z10 := Z84.out; have z11 := Z99.out; have z12 := Z108.out; have z13 := Z119.out; have q2 := F117.out.inn _ h3; omega))
    have F124 := Lib.hid (fr.bx_ks F115.out hb (fun h3 => by have z0 := Z3.out; have z1 := Z5.out; have z2 := Z13.out; have z3 := Z27.out; have z4 := Z36.out; have z5 := Z48.out; have z6 := Z53.out; have z7 := Z55.out; have z8 := Z68.out; have z9 := Z76.out; have z10 := Z84.out; have z11 := Z99.out; have z12 := Z108.out; have z13 := Z119.out; have q2 := F117.out.inn _ h3; omega))
    clear hb B107 F109 F110 F112 F114 F115
    clear F111
    clear F124
    clear F117
    have ck8_0 : (w116).cell? ⟨w.heap.size, 0, none⟩ = some (.int .i64 f.Start) := F123.out.cell 0
    have ck8_1 : (w116).cell? ⟨w.heap.size, 1, none⟩ = some (.slice Af nf cf) := F123.out.cell 1
    go_wp2_with fail
    clear ck8_0 ck8_1
    (with_reducible refine (ux.eqIntS F122.out.rd F121.out.rd).mono ?_)
    rintro e w125 hp
    obtain ⟨rfl, hb⟩ := bx.b_parts rfl hp
    clear hp
    have B126 := Lib.hid (B118.out.trans (hb.mono B118.out.size))
    have Z127 := Lib.hid hb.size
    have F128 := Lib.hid (F120.out.below hb)
    have F129 := Lib.hid (F121.out.below hb)
    have F130 := Lib.hid (F122.out.below hb)
    have F131 := Lib.hid (F123.out.below hb)
    clear hb B118 F120 F121 F122 F123
    have ck8_0 : (w125).cell? ⟨w.heap.size, 0, none⟩ = some (.int .i64 f.Start) := F131.out.cell 0
    have ck8_1 : (w125).cell? ⟨w.heap.size, 1, none⟩ = some (.slice Af nf cf) := F131.out.cell 1
    go_wp2_with fail
    clear ck8_0 ck8_1
    (with_reducible refine (ux.markIntS 1 F130.out (by have h1 := ux.ints_bd l9; have h2 := (show (0:Int) ≤ 1 ∧ (1:Int) ≤ 4294967360 by omega); have h3 := SX.out; omega) SX.out).mono ?_)
    rintro e w132 hp
    obtain ⟨rfl, ho, hb⟩ := hp.parts
    clear hp
    obtain ⟨k2, hk9⟩ : ∃ k : Int, 1 + (ux.ints.tot l9 : Nat) = k := ⟨_, rfl⟩
    have Hk2 := Lib.hid hk9
    have Kk2 := Lib.hid (show 0 ≤ k2 ∧ k2 ≤ 1 + 4294967360 by have h1 := ux.ints_bd l9; have h2 := (show (0:Int) ≤ 1 ∧ (1:Int) ≤ 4294967360 by omega); have h3 := SX.out; omega)
    have ngk2 : ¬ k2 < 0 := by have := Kk2.out; omega
    (first | rw [hk9] | (change Code.wp _ _ _ _ _; rw [hk9]) | skip)
    clear hk9
    have F133 := Lib.hid ho
    clear ho
    have B134 := Lib.hid (B126.out.trans (ux.ks_bel hb (fun b hb => by have z0 := Z3.out; have z1 := Z5.out; have z2 := Z13.out; have z3 := Z27.out; have z4 := Z36.out; have z5 := Z48.out; have z6 := Z53.out; have z7 := Z55.out; have z8 := Z68.out; have z9 := Z76.out; have z10 := Z84.out; have z11 := Z99.out; have z12 := Z108.out; have z13 := Z119.out; have z14 := Z127.out; have zB := B126.out.size; have := F133.out.inn b hb; omega) B126.out.size))
    have Z135 := Lib.hid hb.size
    have F136 := Lib.hid (F128.out.ks hb (fun b h1 h2 h3 => by have z0 := Z3.out; have z1 := Z5.out; have z2 := Z13.out; have z3 := Z27.out; have z4 := Z36.out; have z5 := Z48.out; have z6 := Z53.out; have z7 := Z55.out; have z8 := Z68.out; have z9 := Z76.out; have z10 := Z84.out; have z11 := Z99.out; have z12 := Z108.out; have z13 := Z119.out; have z14 := Z127.out; have z15 := Z135.out; have q2 := F133.out.inn b h3; omega))
    have F137 := Lib.hid (F129.out.ks hb (fun b h1 h2 => by have z0 := Z3.out; have z1 := Z5.out; have z2 := Z13.out; have z3 := Z27.out; have z4 := Z36.out; have z5 := Z48.out; have z6 := Z53.out; have z7 := Z55.out; have z8 := Z68.out; have z9 := Z76.out; have z10 := Z84.out; have z11 := Z99.out; have z12 := Z108.out; have z13 := Z119.out; have z14 := Z127.out; have z15 := Z135.out; have q1 := F129.out.inn b h1; have q2 := F133.out.inn b h2; omega))
    have F138 := Lib.hid (fr.bx_ks F131.out hb (fun h3 => by have z0 := Z3.out; have z1 := Z5.out; have z2 := Z13.out; have z3 := Z27.out; have z4 := Z36.out; have z5 := Z48.out; have z6 := Z53.out; have z7 := Z55.out; have z8 := Z68.out; have z9 := Z76.out; have z10 := Z84.out; have z11 := Z99.out; have z12 := Z108.out; have z13 := Z119.out; have z14 := Z127.out; have z15 := Z135.out; have q2 := F133.out.inn _ h3; omega))
    clear hb B126 F128 F129 F131
    clear F130
    have ck8_0 : (w132).cell? ⟨w.heap.size, 0, none⟩ = some (.int .i64 f.Start) := F138.out.cell 0
    have ck8_1 : (w132).cell? ⟨w.heap.size, 1, none⟩ = some (.slice Af nf cf) := F138.out.cell 1
    go_wp2_with fail
    clear ck8_0 ck8_1
    (with_reducible refine (ux.heldIntS 1 F133.out.rd (by have h1 := ux.ints_bd l9; have h2 := (show (0:Int) ≤ 1 ∧ (1:Int) ≤ 4294967360 by omega); have h3 := SX.out; omega) SX.out).mono ?_)
    rintro e w139 hp
    obtain ⟨rfl, hb⟩ := bx.n_parts Hk2.out hp
    clear hp
    have B140 := Lib.hid (B134.out.trans (hb.mono B134.out.size))
    have Z141 := Lib.hid hb.size
    have F142 := Lib.hid (F136.out.below hb)
    have F143 := Lib.hid (F137.out.below hb)
    have F144 := Lib.hid (F133.out.below hb)
    have F145 := Lib.hid (F138.out.below hb)
    clear hb B134 F136 F137 F133 F138
    have ck8_0 : (w139).cell? ⟨w.heap.size, 0, none⟩ = some (.int .i64 f.Start) := F145.out.cell 0
    have ck8_1 : (w139).cell? ⟨w.heap.size, 1, none⟩ = some (.slice Af nf cf) := F145.out.cell 1
    go_wp2_with fail
    clear ck8_0 ck8_1
    (with_reducible refine (ux.toReorderBuffer F142.out S17.out).mono ?_)
    rintro e w146 hp
    obtain ⟨v151, fp150, rfl, ho, hb⟩ := hp.parts
    clear hp
    obtain ⟨A147, n148, c149, f9, rfl, _, _, _⟩ := ux.rob_o ho
    have F152 := Lib.hid ho
    clear ho
    have B153 := Lib.hid (B140.out.trans (hb.mono B140.out.size))
    have Z154 := Lib.hid hb.size
    have F155 := Lib.hid (F142.out.below hb)
    have F156 := Lib.hid (F143.out.below hb)
    have F157 := Lib.hid (F144.out.below hb)
    have F158 := Lib.hid (F145.out.below hb)
    clear hb B140 F142 F143 F144 F145
    have ck8_0 : (w146).cell? ⟨w.heap.size, 0, none⟩ = some (.int .i64 f.Start) := F158.out.cell 0
    have ck8_1 : (w146).cell? ⟨w.heap.size, 1, none⟩ = some (.slice Af nf cf) := F158.out.cell 1
    go_wp2_with fail
    clear ck8_0 ck8_1
    (with_reducible refine (HX.out ▸ ro.implMs f.Start f.Pending _ _ A147 n148 c149 _ (ro.rob_rd F152.out.rd)).mono ?_)
    rintro e w159 hp
    obtain ⟨A160, n161, c162, rfl, ho, hb⟩ := hp
    have ho2 := ux.numw_of ho
    clear ho
    have F163 := Lib.hid ho2
    clear ho2
    have B164 := Lib.hid (B153.out.trans (hb.mono B153.out.size))
    have Z165 := Lib.hid hb.size
    have F166 := Lib.hid (F155.out.below hb)
    have F167 := Lib.hid (F156.out.below hb)
    have F168 := Lib.hid (F157.out.below hb)
    have F169 := Lib.hid (F152.out.below hb)
    have F170 := Lib.hid (F158.out.below hb)
    clear hb B153 F155 F156 F157 F152 F158
    clear F169
    have ck8_0 : (w159).cell? ⟨w.heap.size, 0, none⟩ = some (.int .i64 f.Start) := F170.out.cell 0
    have ck8_1 : (w159).cell? ⟨w.heap.size, 1, none⟩ = some (.slice Af nf cf) := F170.out.cell 1
    go_wp2_with fail
    clear ck8_0 ck8_1
    (with_reducible refine (ux.eqIntS F163.out.rd F167.out.rd).mono ?_)
    rintro e w171 hp
    obtain ⟨rfl, hb⟩ := bx.b_parts rfl hp
    clear hp
    have B172 := Lib.hid (B164.out.trans (hb.mono B164.out.size))
    have Z173 := Lib.hid hb.size
    have F174 := Lib.hid (F166.out.below hb)
    have F175 := Lib.hid (F167.out.below hb)
    have F176 := Lib.hid (F168.out.below hb)
    have F177 := Lib.hid (F163.out.below hb)
    have F178 := Lib.hid (F170.out.below hb)
    clear hb B164 F166 F167 F168 F163 F170
    clear F177
    clear F175
    have ck8_0 : (w171).cell? ⟨w.heap.size, 0, none⟩ = some (.int .i64 f.Start) := F178.out.cell 0
    have ck8_1 : (w171).cell? ⟨w.heap.size, 1, none⟩ = some (.slice Af nf cf) := F178.out.cell 1
    go_wp2_with fail
    clear ck8_0 ck8_1
    (with_reducible refine (ux.heldIntS 1 F176.out.rd (by have h1 := ux.ints_bd l9; have h2 := (show (0:Int) ≤ 1 ∧ (1:Int) ≤ 4294967360 by omega); have h3 := SX.out; omega) SX.out).mono ?_)
    rintro e w179 hp
    obtain ⟨rfl, hb⟩ := bx.n_parts Hk2.out hp
    clear hp
    have B180 := Lib.hid (B172.out.trans (hb.mono B172.out.size))
    have Z181 := Lib.hid hb.size
    have F182 := Lib.hid (F174.out.below hb)
    have F183 := Lib.hid (F176.out.below hb)
    have F184 := Lib.hid (F178.out.below hb)
    clear hb B172 F174 F176 F178
    have ck8_0 : (w179).cell? ⟨w.heap.size, 0, none⟩ = some (.int .i64 f.Start) := F184.out.cell 0
    have ck8_1 : (w179).cell? ⟨w.heap.size, 1, none⟩ = some (.slice Af nf cf) := F184.out.cell 1
    go_wp2_with fail
    clear ck8_0 ck8_1
    go_ret
    exact ⟨rfl, B180.out⟩
theorem walkA (f0 : Int) (Af : Option Addr) (nf cf : Nat) (zf : List ux.Nf)  (w : World) (hf : opm.Nfq w 0 w.heap.size Af nf cf zf)  :
    Calls Try.prog 10 #[.agg #[.int .i64 f0, .slice Af nf cf]] w fun e w' => e = .returned (.bool true) ∧ Below w.heap.size w w' :=
  walk ⟨f0, zf⟩ Af nf cf w hf
end Go.Proofs.Ytmmhleobgpgliaa.xExactMissingNumbers
