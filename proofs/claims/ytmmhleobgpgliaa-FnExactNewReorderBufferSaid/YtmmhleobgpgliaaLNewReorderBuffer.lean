/- The walk of FnExactNewReorderBuffer. Condition: none. -/
import Derived.Test.YtmmhleobgpgliaaRsz
import Derived.Test.YtmmhleobgpgliaaOpf
namespace Go.Proofs.Ytmmhleobgpgliaa.xExactNewReorderBuffer
open Go.RowKit sl harn bx
set_option linter.unusedVariables false
set_option maxRecDepth 100000 in
set_option maxHeartbeats 4000000 in
theorem walk (m : Int) (w : World)  :
    Calls Try.prog 5 #[.int .i64 m] w fun e w' => e = .returned (.bool true) ∧ Below w.heap.size w w' := by
  have B1 := Lib.hid (Below.refl w.heap.size w)
  go_enter Try.func5, Try.ntmps5
  obtain ⟨x9, hx9⟩ : ∃ x, ro.new m = x := ⟨_, rfl⟩
  have HX := Lib.hid hx9
  have SX := Lib.hid (show ux.rob.sz x9 ≤ 67108864 by rw [← hx9]; exact ro.new_sz m)
  clear hx9
  go_wp2_with fail
  (with_reducible refine (HX.out ▸ ro.specNew m _).mono ?_)
  rintro e w2 hp
  obtain ⟨A3, n4, c5, rfl, ho, hb⟩ := ro.rr_parts hp
  clear hp
  have F6 := Lib.hid (ro.rob_of (f := x9) ho)
  clear ho
  have B7 := Lib.hid (B1.out.trans (hb.mono B1.out.size))
  have Z8 := Lib.hid hb.size
  clear hb B1
  obtain ⟨V9, hV9⟩ : ∃ x, x = w2.alloc (.cells #[.int .i64 x9.Start, .slice A3 n4 c5] 31) := ⟨_, rfl⟩
  have hb : Below w2.heap.size w2 V9 := by rw [hV9]; exact bx.below_box _ _
  have hz9 : w2.heap.size + 1 ≤ V9.heap.size := by rw [hV9]; simp
  have Z10 := Lib.hid hz9
  clear hz9
  have B11 := Lib.hid (B7.out.trans (hb.mono B7.out.size))
  have Z12 := Lib.hid hb.size
  have F13 := Lib.hid (F6.out.below hb)
  clear hb B7 F6
  have X14 := Lib.hid (show bx.Bx 31 V9 w2.heap.size #[.int .i64 x9.Start, .slice A3 n4 c5] by rw [hV9]; exact bx.Bx.made _ _ _)
  have ck15_0 : (w2.alloc (.cells #[.int .i64 x9.Start, .slice A3 n4 c5] 31)).cell? ⟨w2.heap.size, 0, none⟩ = some (.int .i64 x9.Start) := by rw [← hV9]; exact X14.out.cell 0
  have ck15_1 : (w2.alloc (.cells #[.int .i64 x9.Start, .slice A3 n4 c5] 31)).cell? ⟨w2.heap.size, 1, none⟩ = some (.slice A3 n4 c5) := by rw [← hV9]; exact X14.out.cell 1
  go_wp2_with fail
  rw [← hV9]
  clear hV9 ck15_0 ck15_1
  (with_reducible refine (HX.out ▸ ro.implNew m _).mono ?_)
  rintro e w16 hp
  obtain ⟨A17, n18, c19, fp20, rfl, ho, hb⟩ := ro.ro_parts hp
  clear hp
  have ho2 := ro.rob_oo (f := x9) ho
  clear ho
  have F21 := Lib.hid ho2
  clear ho2
  have B22 := Lib.hid (B11.out.trans (hb.mono B11.out.size))
  have Z23 := Lib.hid hb.size
  have F24 := Lib.hid (F13.out.below hb)
  have F25 := Lib.hid (X14.out.below hb)
  clear hb B11 F13 X14
  obtain ⟨V26, hV26⟩ : ∃ x, x = w16.alloc (.cells #[.int .i64 x9.Start, .slice A17 n18 c19] 31) := ⟨_, rfl⟩
  have hb : Below w16.heap.size w16 V26 := by rw [hV26]; exact bx.below_box _ _
  have hz9 : w16.heap.size + 1 ≤ V26.heap.size := by rw [hV26]; simp
  have Z27 := Lib.hid hz9
  clear hz9
  have B28 := Lib.hid (B22.out.trans (hb.mono B22.out.size))
  have Z29 := Lib.hid hb.size
  have F30 := Lib.hid (F24.out.below hb)
  have F31 := Lib.hid (F21.out.below hb)
  have F32 := Lib.hid (F25.out.below hb)
  clear hb B22 F24 F21 F25
  have X33 := Lib.hid (show bx.Bx 31 V26 w16.heap.size #[.int .i64 x9.Start, .slice A17 n18 c19] by rw [hV26]; exact bx.Bx.made _ _ _)
  have ck15_0 : (w16.alloc (.cells #[.int .i64 x9.Start, .slice A17 n18 c19] 31)).cell? ⟨w2.heap.size, 0, none⟩ = some (.int .i64 x9.Start) := by rw [← hV26]; exact F32.out.cell 0
  have ck15_1 : (w16.alloc (.cells #[.int .i64 x9.Start, .slice A17 n18 c19] 31)).cell? ⟨w2.heap.size, 1, none⟩ = some (.slice A3 n4 c5) := by rw [← hV26]; exact F32.out.cell 1
  have ck34_0 : (w16.alloc (.cells #[.int .i64 x9.Start, .slice A17 n18 c19] 31)).cell? ⟨w16.heap.size, 0, none⟩ = some (.int .i64 x9.Start) := by rw [← hV26]; exact X33.out.cell 0
  have ck34_1 : (w16.alloc (.cells #[.int .i64 x9.Start, .slice A17 n18 c19] 31)).cell? ⟨w16.heap.size, 1, none⟩ = some (.slice A17 n18 c19) := by rw [← hV26]; exact X33.out.cell 1
  go_wp2_with fail
  rw [← hV26]
  clear hV26 ck15_0 ck15_1 ck34_0 ck34_1
  (with_reducible refine (ux.eqReorderBuffer F31.out.rd F30.out).mono ?_)
  rintro e w35 hp
  obtain ⟨rfl, hb⟩ := bx.b_parts rfl hp
  clear hp
  have B36 := Lib.hid (B28.out.trans (hb.mono B28.out.size))
  have Z37 := Lib.hid hb.size
  have F38 := Lib.hid (F30.out.below hb)
  have F39 := Lib.hid (F31.out.below hb)
  have F40 := Lib.hid (F32.out.below hb)
  have F41 := Lib.hid (X33.out.below hb)
  clear hb B28 F30 F31 F32 X33
  have ck15_0 : (w35).cell? ⟨w2.heap.size, 0, none⟩ = some (.int .i64 x9.Start) := F40.out.cell 0
  have ck15_1 : (w35).cell? ⟨w2.heap.size, 1, none⟩ = some (.slice A3 n4 c5) := F40.out.cell 1
  have ck34_0 : (w35).cell? ⟨w16.heap.size, 0, none⟩ = some (.int .i64 x9.Start) := F41.out.cell 0
  have ck34_1 : (w35).cell? ⟨w16.heap.size, 1, none⟩ = some (.slice A17 n18 c19) := F41.out.cell 1
  go_wp2_with fail
  clear ck15_0 ck15_1 ck34_0 ck34_1
  (with_reducible refine (ux.markReorderBuffer 1 F39.out (by have h1 := ro.rob_bd x9; have h2 := (show (0:Int) ≤ 1 ∧ (1:Int) ≤ 4294967360 by omega); have h3 := SX.out; omega) SX.out).mono ?_)
  rintro e w42 hp
  obtain ⟨rfl, ho, hb⟩ := hp.parts
  clear hp
  obtain ⟨k2, hk9⟩ : ∃ k : Int, 1 + (ux.rob_tv x9 : Nat) = k := ⟨_, rfl⟩
  have Hk2 := Lib.hid hk9
  have Kk2 := Lib.hid (show 0 ≤ k2 ∧ k2 ≤ 1 + 4294967360 by have h1 := ro.rob_bd x9; have h2 := (show (0:Int) ≤ 1 ∧ (1:Int) ≤ 4294967360 by omega); have h3 := SX.out; omega)
  have ngk2 : ¬ k2 < 0 := by have := Kk2.out; omega
  (first | rw [hk9] | (change Code.wp _ _ _ _ _; rw [hk9]) | skip)
  clear hk9
  have F43 := Lib.hid ho
  clear ho
  have B44 := Lib.hid (B36.out.trans (ux.ks_bel hb (fun b hb => by have z0 := Z8.out; have z1 := Z10.out; have z2 := Z12.out; have z3 := Z23.out; have z4 := Z27.out; have z5 := Z29.out; have z6 := Z37.out; have zB := B36.out.size; have := F43.out.inn b hb; omega) B36.out.size))
  have Z45 := Lib.hid hb.size
  have F46 := Lib.hid (F38.out.ks hb (fun b h1 h2 h3 => by have z0 := Z8.out; have z1 := Z10.out; have z2 := Z12.out; have z3 := Z23.out; have z4 := Z27.out; have z5 := Z29.out; have z6 := Z37.out; have z7 := Z45.out; have q2 := F43.out.inn b h3; omega))
  have F47 := Lib.hid (fr.bx_ks F40.out hb (fun h3 => by have z0 := Z8.out; have z1 := Z10.out; have z2 := Z12.out; have z3 := Z23.out; have z4 := Z27.out; have z5 := Z29.out; have z6 := Z37.out; have z7 := Z45.out; have q2 := F43.out.inn _ h3; omega))
  have F48 := Lib.hid (fr.bx_ks F41.out hb (fun h3 => by have z0 := Z8.out; have z1 := Z10.out; have z2 := Z12.out; have z3 := Z23.out; have z4 := Z27.out; have z5 := Z29.out; have z6 := Z37.out; have z7 := Z45.out; have q2 := F43.out.inn _ h3; omega))
  clear hb B36 F38 F40 F41
  clear F39
  have ck15_0 : (w42).cell? ⟨w2.heap.size, 0, none⟩ = some (.int .i64 x9.Start) := F47.out.cell 0
  have ck15_1 : (w42).cell? ⟨w2.heap.size, 1, none⟩ = some (.slice A3 n4 c5) := F47.out.cell 1
  have ck34_0 : (w42).cell? ⟨w16.heap.size, 0, none⟩ = some (.int .i64 x9.Start) := F48.out.cell 0
  have ck34_1 : (w42).cell? ⟨w16.heap.size, 1, none⟩ = some (.slice A17 n18 c19) := F48.out.cell 1
  go_wp2_with fail
  clear ck15_0 ck15_1 ck34_0 ck34_1
  (with_reducible refine (ux.heldReorderBuffer 1 F43.out.rd (by have h1 := ro.rob_bd x9; have h2 := (show (0:Int) ≤ 1 ∧ (1:Int) ≤ 4294967360 by omega); have h3 := SX.out; omega) SX.out).mono ?_)
  rintro e w49 hp
  obtain ⟨rfl, hb⟩ := bx.n_parts Hk2.out hp
  clear hp
  have B50 := Lib.hid (B44.out.trans (hb.mono B44.out.size))
  have Z51 := Lib.hid hb.size
  have F52 := Lib.hid (F46.out.below hb)
  have F53 := Lib.hid (F43.out.below hb)
  have F54 := Lib.hid (F47.out.below hb)
  have F55 := Lib.hid (F48.out.below hb)
  clear hb B44 F46 F43 F47 F48
  have ck15_0 : (w49).cell? ⟨w2.heap.size, 0, none⟩ = some (.int .i64 x9.Start) := F54.out.cell 0
  have ck15_1 : (w49).cell? ⟨w2.heap.size, 1, none⟩ = some (.slice A3 n4 c5) := F54.out.cell 1
  have ck34_0 : (w49).cell? ⟨w16.heap.size, 0, none⟩ = some (.int .i64 x9.Start) := F55.out.cell 0
  have ck34_1 : (w49).cell? ⟨w16.heap.size, 1, none⟩ = some (.slice A17 n18 c19) := F55.out.cell 1
  go_wp2_with fail
  clear ck15_0 ck15_1 ck34_0 ck34_1
  (with_reducible refine (HX.out ▸ ro.implNew m _).mono ?_)
  rintro e w56 hp
  obtain ⟨A57, n58, c59, fp60, rfl, ho, hb⟩ := ro.ro_parts hp
  clear hp
  have ho2 := ro.rob_oo (f := x9) ho
  clear ho
  have F61 := Lib.hid ho2
  clear ho2
  have B62 := Lib.hid (B50.out.trans (hb.mono B50.out.size))
  have Z63 := Lib.hid hb.size
  have F64 := Lib.hid (F52.out.below hb)
  have F65 := Lib.hid (F53.out.below hb)
  have F66 := Lib.hid (F54.out.below hb)
  have F67 := Lib.hid (F55.out.below hb)
  clear hb B50 F52 F53 F54 F55
  obtain ⟨V68, hV68⟩ : ∃ x, x = w56.alloc (.cells #[.int .i64 x9.Start, .slice A57 n58 c59] 31) := ⟨_, rfl⟩
  have hb : Below w56.heap.size w56 V68 := by rw [hV68]; exact bx.below_box _ _
  have hz9 : w56.heap.size + 1 ≤ V68.heap.size := by rw [hV68]; simp
  have Z69 := Lib.hid hz9
  clear hz9
  have B70 := Lib.hid (B62.out.trans (hb.mono B62.out.size))
  have Z71 := Lib.hid hb.size
  have F72 := Lib.hid (F64.out.below hb)
  have F73 := Lib.hid (F65.out.below hb)
  have F74 := Lib.hid (F61.out.below hb)
  have F75 := Lib.hid (F66.out.below hb)
  have F76 := Lib.hid (F67.out.below hb)
  clear hb B62 F64 F65 F61 F66 F67
  have X77 := Lib.hid (show bx.Bx 31 V68 w56.heap.size #[.int .i64 x9.Start, .slice A57 n58 c59] by rw [hV68]; exact bx.Bx.made _ _ _)
  have ck15_0 : (w56.alloc (.cells #[.int .i64 x9.Start, .slice A57 n58 c59] 31)).cell? ⟨w2.heap.size, 0, none⟩ = some (.int .i64 x9.Start) := by rw [← hV68]; exact F75.out.cell 0
  have ck15_1 : (w56.alloc (.cells #[.int .i64 x9.Start, .slice A57 n58 c59] 31)).cell? ⟨w2.heap.size, 1, none⟩ = some (.slice A3 n4 c5) := by rw [← hV68]; exact F75.out.cell 1
  have ck34_0 : (w56.alloc (.cells #[.int .i64 x9.Start, .slice A57 n58 c59] 31)).cell? ⟨w16.heap.size, 0, none⟩ = some (.int .i64 x9.Start) := by rw [← hV68]; exact F76.out.cell 0
  have ck34_1 : (w56.alloc (.cells #[.int .i64 x9.Start, .slice A57 n58 c59] 31)).cell? ⟨w16.heap.size, 1, none⟩ = some (.slice A17 n18 c19) := by rw [← hV68]; exact F76.out.cell 1
  have ck78_0 : (w56.alloc (.cells #[.int .i64 x9.Start, .slice A57 n58 c59] 31)).cell? ⟨w56.heap.size, 0, none⟩ = some (.int .i64 x9.Start) := by rw [← hV68]; exact X77.out.cell 0
  have ck78_1 : (w56.alloc (.cells #[.int .i64 x9.Start, .slice A57 n58 c59] 31)).cell? ⟨w56.heap.size, 1, none⟩ = some (.slice A57 n58 c59) := by rw [← hV68]; exact X77.out.cell 1
  go_wp2_with fail
  rw [← hV68]
  clear hV68 ck15_0 ck15_1 ck34_0 ck34_1 ck78_0 ck78_1
  (with_reducible refine (ux.eqReorderBuffer F74.out.rd F72.out).mono ?_)
  rintro e w79 hp
  obtain ⟨rfl, hb⟩ := bx.b_parts rfl hp
  clear hp
  have B80 := Lib.hid (B70.out.trans (hb.mono B70.out.size))
  have Z81 := Lib.hid hb.size
  have F82 := Lib.hid (F72.out.below hb)
  have F83 := Lib.hid (F73.out.below hb)
  have F84 := Lib.hid (F74.out.below hb)
  have F85 := Lib.hid (F75.out.below hb)
  have F86 := Lib.hid (F76.out.below hb)
  have F87 := Lib.hid (X77.out.below hb)
  clear hb B70 F72 F73 F74 F75 F76 X77
  clear F87
  clear F85
  clear F84
  clear F82
  have ck34_0 : (w79).cell? ⟨w16.heap.size, 0, none⟩ = some (.int .i64 x9.Start) := F86.out.cell 0
  have ck34_1 : (w79).cell? ⟨w16.heap.size, 1, none⟩ = some (.slice A17 n18 c19) := F86.out.cell 1
  go_wp2_with fail
  clear ck34_0 ck34_1
  (with_reducible refine (ux.heldReorderBuffer 1 F83.out.rd (by have h1 := ro.rob_bd x9; have h2 := (show (0:Int) ≤ 1 ∧ (1:Int) ≤ 4294967360 by omega); have h3 := SX.out; omega) SX.out).mono ?_)
  rintro e w88 hp
  obtain ⟨rfl, hb⟩ := bx.n_parts Hk2.out hp
  clear hp
  have B89 := Lib.hid (B80.out.trans (hb.mono B80.out.size))
  have Z90 := Lib.hid hb.size
  have F91 := Lib.hid (F83.out.below hb)
  have F92 := Lib.hid (F86.out.below hb)
  clear hb B80 F83 F86
  have ck34_0 : (w88).cell? ⟨w16.heap.size, 0, none⟩ = some (.int .i64 x9.Start) := F92.out.cell 0
  have ck34_1 : (w88).cell? ⟨w16.heap.size, 1, none⟩ = some (.slice A17 n18 c19) := F92.out.cell 1
  go_wp2_with fail
  clear ck34_0 ck34_1
  go_ret
  exact ⟨rfl, B89.out⟩
theorem walkA (m : Int) (w : World)  :
    Calls Try.prog 5 #[.int .i64 m] w fun e w' => e = .returned (.bool true) ∧ Below w.heap.size w w' :=
  walk m w
end Go.Proofs.Ytmmhleobgpgliaa.xExactNewReorderBuffer
