/- The walk of FnExactIsValidReorderBuffer. Condition: none. -/
import Derived.Test.YtmmhleobgpgliaaRsz
import Derived.Test.YtmmhleobgpgliaaOpf
namespace Go.Proofs.Ytmmhleobgpgliaa.xExactIsValidReorderBuffer
open Go.RowKit sl harn bx
set_option linter.unusedVariables false
set_option maxRecDepth 100000 in
set_option maxHeartbeats 4000000 in
theorem walk (f : ux.Rob) (Af : Option Addr) (nf cf : Nat)  (w : World) (hf : ux.RR ux.rowNf w 0 w.heap.size (.slice Af nf cf) f.Pending)  :
    Calls Try.prog 6 #[ux.robV f (.slice Af nf cf)] w fun e w' => e = .returned (.bool true) ∧ Below w.heap.size w w' := by
  have B1 := Lib.hid (Below.refl w.heap.size w)
  have F2 := Lib.hid (ro.rob_of (f := f) hf)
  clear hf
  go_enter Try.func6, Try.ntmps6
  go_upto_region 1 with fail
  obtain ⟨we, hW⟩ : ∃ w0, w.alloc (.cells #[.int .i64 f.Start, .slice Af nf cf] 55) = w0 := ⟨_, rfl⟩
  rw [hW]
  have hb : Below w.heap.size w we := by rw [← hW]; exact (Below.refl _ _).alloc (by simp <;> omega) _
  have hz9 : w.heap.size + 1 ≤ we.heap.size := by rw [← hW]; simp
  have Z3 := Lib.hid hz9
  clear hz9
  have B4 := Lib.hid (B1.out.trans (hb.mono B1.out.size))
  have Z5 := Lib.hid hb.size
  have F6 := Lib.hid (F2.out.below hb)
  clear hb B1 F2
  have X7 := Lib.hid (show bx.Bx 55 we (w.heap.size) #[.int .i64 f.Start, .slice Af nf cf] by
      rw [← hW]
      have hh := bx.Bx.made 55 w #[.int .i64 f.Start, .slice Af nf cf]
      exact hh)
  clear hW
  have ck8_0 : (we).cell? ⟨w.heap.size, 0, none⟩ = some (.int .i64 f.Start) := X7.out.cell 0
  have ck8_1 : (we).cell? ⟨w.heap.size, 1, none⟩ = some (.slice Af nf cf) := X7.out.cell 1
  go_wp2_with fail
  clear ck8_0 ck8_1
  (with_reducible refine (ux.szReorderBuffer (1048576) (by omega) F6.out).mono ?_)
  rintro e w9 hp
  obtain ⟨r10, rfl, H11, hb⟩ := hp.parts
  have B12 := Lib.hid (B4.out.trans (hb.mono B4.out.size))
  have Z13 := Lib.hid hb.size
  have F14 := Lib.hid (F6.out.below hb)
  have F15 := Lib.hid (X7.out.below hb)
  clear hb B4 F6 X7
  rcases H11 with ⟨hr, _⟩ | ⟨hr, ht⟩
  · subst hr
    go_wp2_with fail
    go_ret
    exact ⟨rfl, B12.out⟩
  · have Q16 := Lib.hid (show 0 ≤ r10 ∧ r10 ≤ 1048576 by have := (by omega); omega)
    have S17 := Lib.hid (show ux.rob.sz f ≤ 67108864 by have := (by omega); omega)
    have S18 := Lib.hid (show ux.rob.sz f ≤ 1048576 by have := (by omega); omega)
    have ngr10 : ¬ r10 < 0 := by have := Q16.out; omega
    clear hr ht
    obtain ⟨vb, hvb⟩ : ∃ vb, ro.vr ⟨f.Start, f.Pending⟩ = vb := ⟨_, rfl⟩
    have VB := Lib.hid hvb
    clear hvb
    have ck8_0 : (w9).cell? ⟨w.heap.size, 0, none⟩ = some (.int .i64 f.Start) := F15.out.cell 0
    have ck8_1 : (w9).cell? ⟨w.heap.size, 1, none⟩ = some (.slice Af nf cf) := F15.out.cell 1
    go_wp2_with fail
    clear ck8_0 ck8_1
    (with_reducible refine (ux.toReorderBuffer F14.out S17.out).mono ?_)
    rintro e w19 hp
    obtain ⟨v24, fp23, rfl, ho, hb⟩ := hp.parts
    clear hp
    obtain ⟨A20, n21, c22, f9, rfl, _, _, _⟩ := ux.rob_o ho
    have F25 := Lib.hid ho
    clear ho
    have B26 := Lib.hid (B12.out.trans (hb.mono B12.out.size))
    have Z27 := Lib.hid hb.size
    have F28 := Lib.hid (F14.out.below hb)
    have F29 := Lib.hid (F15.out.below hb)
    clear hb B12 F14 F15
    have ck8_0 : (w19).cell? ⟨w.heap.size, 0, none⟩ = some (.int .i64 f.Start) := F29.out.cell 0
    have ck8_1 : (w19).cell? ⟨w.heap.size, 1, none⟩ = some (.slice Af nf cf) := F29.out.cell 1
    go_wp2_with fail
    clear ck8_0 ck8_1
    (with_reducible refine (ro.specVr f.Start f.Pending _ _ A20 n21 c22 _ (ro.rob_rd F25.out.rd)).mono ?_)
    rintro e w30 hp
    obtain ⟨rfl, hb⟩ := bx.b_parts VB.out hp
    clear hp
    have B31 := Lib.hid (B26.out.trans (hb.mono B26.out.size))
    have Z32 := Lib.hid hb.size
    have F33 := Lib.hid (F28.out.below hb)
    have F34 := Lib.hid (F25.out.below hb)
    have F35 := Lib.hid (F29.out.below hb)
    clear hb B26 F28 F25 F29
    clear F34
    have ck8_0 : (w30).cell? ⟨w.heap.size, 0, none⟩ = some (.int .i64 f.Start) := F35.out.cell 0
    have ck8_1 : (w30).cell? ⟨w.heap.size, 1, none⟩ = some (.slice Af nf cf) := F35.out.cell 1
    go_wp2_with fail
    clear ck8_0 ck8_1
    (with_reducible refine (ux.toReorderBuffer F33.out S17.out).mono ?_)
    rintro e w36 hp
    obtain ⟨v41, fp40, rfl, ho, hb⟩ := hp.parts
    clear hp
    obtain ⟨A37, n38, c39, f9, rfl, _, _, _⟩ := ux.rob_o ho
    have F42 := Lib.hid ho
    clear ho
    have B43 := Lib.hid (B31.out.trans (hb.mono B31.out.size))
    have Z44 := Lib.hid hb.size
    have F45 := Lib.hid (F33.out.below hb)
    have F46 := Lib.hid (F35.out.below hb)
    clear hb B31 F33 F35
    obtain ⟨V47, hV47⟩ : ∃ x, x = w36.alloc (.cells #[.int .i64 f.Start, .slice A37 n38 c39] 31) := ⟨_, rfl⟩
    have hb : Below w36.heap.size w36 V47 := by rw [hV47]; exact bx.below_box _ _
    have hz9 : w36.heap.size + 1 ≤ V47.heap.size := by rw [hV47]; simp
    have Z48 := Lib.hid hz9
    clear hz9
    have B49 := Lib.hid (B43.out.trans (hb.mono B43.out.size))
    have Z50 := Lib.hid hb.size
    have F51 := Lib.hid (F45.out.below hb)
    have F52 := Lib.hid (F42.out.below hb)
    have F53 := Lib.hid (F46.out.below hb)
    clear hb B43 F45 F42 F46
    have X54 := Lib.hid (show bx.Bx 31 V47 w36.heap.size #[.int .i64 f.Start, .slice A37 n38 c39] by rw [hV47]; exact bx.Bx.made _ _ _)
    have ck8_0 : (w36.alloc (.cells #[.int .i64 f.Start, .slice A37 n38 c39] 31)).cell? ⟨w.heap.size, 0, none⟩ = some (.int .i64 f.Start) := by rw [← hV47]; exact F53.out.cell 0
    have ck8_1 : (w36.alloc (.cells #[.int .i64 f.Start, .slice A37 n38 c39] 31)).cell? ⟨w.heap.size, 1, none⟩ = some (.slice Af nf cf) := by rw [← hV47]; exact F53.out.cell 1
    have ck55_0 : (w36.alloc (.cells #[.int .i64 f.Start, .slice A37 n38 c39] 31)).cell? ⟨w36.heap.size, 0, none⟩ = some (.int .i64 f.Start) := by rw [← hV47]; exact X54.out.cell 0
    have ck55_1 : (w36.alloc (.cells #[.int .i64 f.Start, .slice A37 n38 c39] 31)).cell? ⟨w36.heap.size, 1, none⟩ = some (.slice A37 n38 c39) := by rw [← hV47]; exact X54.out.cell 1
    go_wp2_with fail
    rw [← hV47]
    clear hV47 ck8_0 ck8_1 ck55_0 ck55_1
    (with_reducible refine (ro.implVr f.Start f.Pending _ _ A37 n38 c39 _ (ro.rob_rd F52.out.rd)).mono ?_)
    rintro e w56 hp
    obtain ⟨rfl, hb⟩ := bx.b_parts VB.out hp
    clear hp
    have B57 := Lib.hid (B49.out.trans (hb.mono B49.out.size))
    have Z58 := Lib.hid hb.size
    have F59 := Lib.hid (F51.out.below hb)
    have F60 := Lib.hid (F52.out.below hb)
    have F61 := Lib.hid (F53.out.below hb)
    have F62 := Lib.hid (X54.out.below hb)
    clear hb B49 F51 F52 F53 X54
    have ck8_0 : (w56).cell? ⟨w.heap.size, 0, none⟩ = some (.int .i64 f.Start) := F61.out.cell 0
    have ck8_1 : (w56).cell? ⟨w.heap.size, 1, none⟩ = some (.slice Af nf cf) := F61.out.cell 1
    have ck55_0 : (w56).cell? ⟨w36.heap.size, 0, none⟩ = some (.int .i64 f.Start) := F62.out.cell 0
    have ck55_1 : (w56).cell? ⟨w36.heap.size, 1, none⟩ = some (.slice A37 n38 c39) := F62.out.cell 1
    go_wp2_with fail
    clear ck8_0 ck8_1 ck55_0 ck55_1
    have hb : Below w56.heap.size w56 w56.drew := own.below_drew (Below.refl _ _)
    have B63 := Lib.hid (B57.out.trans (hb.mono B57.out.size))
    have Z64 := Lib.hid hb.size
    have F65 := Lib.hid (F59.out.below hb)
    have F66 := Lib.hid (F60.out.below hb)
    have F67 := Lib.hid (F61.out.below hb)
    have F68 := Lib.hid (F62.out.below hb)
    clear hb B57 F59 F60 F61 F62
    have cak55_0 : (w56.drew).cell? ⟨w36.heap.size, 0, none⟩ = some (.int .i64 f.Start) := F68.out.cell 0
    have cak55_1 : (w56.drew).cell? ⟨w36.heap.size, 1, none⟩ = some (.slice A37 n38 c39) := F68.out.cell 1
    have cak8_0 : (w56.drew).cell? ⟨w.heap.size, 0, none⟩ = some (.int .i64 f.Start) := F67.out.cell 0
    have cak8_1 : (w56.drew).cell? ⟨w.heap.size, 1, none⟩ = some (.slice Af nf cf) := F67.out.cell 1
    go_region_held3 (fun w' => w'.cell? ⟨w36.heap.size, 0, none⟩ = some (.int .i64 f.Start) ∧ w'.cell? ⟨w36.heap.size, 1, none⟩ = some (.slice A37 n38 c39) ∧ w'.cell? ⟨w.heap.size, 0, none⟩ = some (.int .i64 f.Start) ∧ w'.cell? ⟨w.heap.size, 1, none⟩ = some (.slice Af nf cf)) (first | (with_reducible exact ⟨cak55_0, cak55_1, cak8_0, cak8_1⟩) | (with_reducible exact ⟨cbk55_0, cbk55_1, cbk8_0, cbk8_1⟩) | (with_reducible exact ⟨cdk55_0, cdk55_1, cdk8_0, cdk8_1⟩))
      (first
      | (go_at_call 36; refine (ux.toReorderBuffer F65.out S17.out).mono ?_; rintro e w69 hp; obtain ⟨v74, fp73, rfl, ho, hb⟩ := hp.parts; clear hp; obtain ⟨A70, n71, c72, f9, rfl, _, _, _⟩ := ux.rob_o ho; have F75 := Lib.hid ho; clear ho; have B76 := Lib.hid (B63.out.trans (hb.mono B63.out.size)); have Z77 := Lib.hid hb.size; have F78 := Lib.hid (F65.out.below hb); have F79 := Lib.hid (F66.out.below hb); have F80 := Lib.hid (F67.out.below hb); have F81 := Lib.hid (F68.out.below hb); clear hb B63 F65 F66 F67 F68; have cbk55_0 : (w69).cell? ⟨w36.heap.size, 0, none⟩ = some (.int .i64 f.Start) := F81.out.cell 0; have cbk55_1 : (w69).cell? ⟨w36.heap.size, 1, none⟩ = some (.slice A37 n38 c39) := F81.out.cell 1; have cbk8_0 : (w69).cell? ⟨w.heap.size, 0, none⟩ = some (.int .i64 f.Start) := F80.out.cell 0; have cbk8_1 : (w69).cell? ⟨w.heap.size, 1, none⟩ = some (.slice Af nf cf) := F80.out.cell 1)
      | (go_at_call 32; refine (ux.eqReorderBuffer F79.out.rd F75.out.rd).mono ?_; rintro e w82 hp; obtain ⟨rfl, hb⟩ := bx.b_parts rfl hp; clear hp; have B83 := Lib.hid (B76.out.trans (hb.mono B76.out.size)); have Z84 := Lib.hid hb.size; have F85 := Lib.hid (F78.out.below hb); have F86 := Lib.hid (F79.out.below hb); have F87 := Lib.hid (F75.out.below hb); have F88 := Lib.hid (F80.out.below hb); have F89 := Lib.hid (F81.out.below hb); clear hb B76 F78 F79 F75 F80 F81; have cdk55_0 : (w82).cell? ⟨w36.heap.size, 0, none⟩ = some (.int .i64 f.Start) := F89.out.cell 0; have cdk55_1 : (w82).cell? ⟨w36.heap.size, 1, none⟩ = some (.slice A37 n38 c39) := F89.out.cell 1; have cdk8_0 : (w82).cell? ⟨w.heap.size, 0, none⟩ = some (.int .i64 f.Start) := F88.out.cell 0; have cdk8_1 : (w82).cell? ⟨w.heap.size, 1, none⟩ = some (.slice Af nf cf) := F88.out.cell 1))
    clear cak55_0 cak55_1 cak8_0 cak8_1 cbk55_0 cbk55_1 cbk8_0 cbk8_1 cdk55_0 cdk55_1 cdk8_0 cdk8_1
    clear F87
    have ck8_0 : (w82).cell? ⟨w.heap.size, 0, none⟩ = some (.int .i64 f.Start) := F88.out.cell 0
    have ck8_1 : (w82).cell? ⟨w.heap.size, 1, none⟩ = some (.slice Af nf cf) := F88.out.cell 1
    have ck55_0 : (w82).cell? ⟨w36.heap.size, 0, none⟩ = some (.int .i64 f.Start) := F89.out.cell 0
    have ck55_1 : (w82).cell? ⟨w36.heap.size, 1, none⟩ = some (.slice A37 n38 c39) := F89.out.cell 1
    go_wp2_with fail
    clear ck8_0 ck8_1 ck55_0 ck55_1
    go_ret
    exact ⟨rfl, B83.out⟩
theorem walkA (f0 : Int) (Af : Option Addr) (nf cf : Nat) (zf : List ux.Nf)  (w : World) (hf : opm.Nfq w 0 w.heap.size Af nf cf zf)  :
    Calls Try.prog 6 #[.agg #[.int .i64 f0, .slice Af nf cf]] w fun e w' => e = .returned (.bool true) ∧ Below w.heap.size w w' :=
  walk ⟨f0, zf⟩ Af nf cf w hf
end Go.Proofs.Ytmmhleobgpgliaa.xExactIsValidReorderBuffer
