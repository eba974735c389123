/- The walk of FnExactMoveStart. Condition: none. -/
import Derived.Test.YtmmhleobgpgliaaRgt
import Derived.Test.YtmmhleobgpgliaaOpf
namespace Go.Proofs.Ytmmhleobgpgliaa.xExactMoveStart
open Go.RowKit sl harn bx
set_option linter.unusedVariables false
set_option maxRecDepth 100000 in
set_option maxHeartbeats 4000000 in
theorem walk (f : ux.Rob) (Af : Option Addr) (nf cf : Nat) (m : Int) (w : World) (hf : ux.RR ux.rowNf w 0 w.heap.size (.slice Af nf cf) f.Pending)  :
    Calls Try.prog 8 #[ux.robV f (.slice Af nf cf), .int .i64 m] w fun e w' => e = .returned (.bool true) ∧ Below w.heap.size w w' := by
  have B1 := Lib.hid (Below.refl w.heap.size w)
  have F2 := Lib.hid (ro.rob_of (f := f) hf)
  clear hf
  go_enter Try.func8, Try.ntmps8
  go_upto_region 1 with fail
  obtain ⟨we, hW⟩ : ∃ w0, w.alloc (.cells #[.int .i64 f.Start, .slice Af nf cf] 55) = w0 := ⟨_, rfl⟩
  rw [hW]
  have hb : Below w.heap.size w we := by rw [← hW]; exact (Below.refl _ _).alloc (by simp <;> omega) _
  have hz9 : w.heap.size + 1 ≤ we.heap.size := by rw [← hW]; simp
  have Z3 := Lib.hid hz9
  clear hz9
  have B4 := Lib.hid (B1.out.trans (hb.mono B1.out.size))
  have Z5 := Lib.hid hb.size
  have F6 := Lib.hid (F2.out.below hb)
  clear hb B1 F2
  have X7 := Lib.hid (show bx.Bx 55 we (w.heap.size) #[.int .i64 f.Start, .slice Af nf cf] by
      rw [← hW]
      have hh := bx.Bx.made 55 w #[.int .i64 f.Start, .slice Af nf cf]
      exact hh)
  clear hW
  have ck8_0 : (we).cell? ⟨w.heap.size, 0, none⟩ = some (.int .i64 f.Start) := X7.out.cell 0
  have ck8_1 : (we).cell? ⟨w.heap.size, 1, none⟩ = some (.slice Af nf cf) := X7.out.cell 1
  go_wp2_with fail
  clear ck8_0 ck8_1
  (with_reducible refine (ux.szReorderBuffer (1048576) (by omega) F6.out).mono ?_)
  rintro e w9 hp
  obtain ⟨r10, rfl, H11, hb⟩ := hp.parts
  have B12 := Lib.hid (B4.out.trans (hb.mono B4.out.size))
  have Z13 := Lib.hid hb.size
  have F14 := Lib.hid (F6.out.below hb)
  have F15 := Lib.hid (X7.out.below hb)
  clear hb B4 F6 X7
  rcases H11 with ⟨hr, _⟩ | ⟨hr, ht⟩
  · subst hr
    go_wp2_with fail
    go_ret
    exact ⟨rfl, B12.out⟩
  · have Q16 := Lib.hid (show 0 ≤ r10 ∧ r10 ≤ 1048576 by have := (by omega); omega)
    have S17 := Lib.hid (show ux.rob.sz f ≤ 67108864 by have := (by omega); omega)
    have S18 := Lib.hid (show ux.rob.sz f ≤ 1048576 by have := (by omega); omega)
    have ngr10 : ¬ r10 < 0 := by have := Q16.out; omega
    clear hr ht
    obtain ⟨⟨x9, l9⟩, hx9⟩ : ∃ p, ro.mvs ⟨f.Start, f.Pending⟩ m = p := ⟨_, rfl⟩
    have HX := Lib.hid hx9
    have SX := Lib.hid (show ux.rob.sz x9 ≤ 67108864 ∧ ux.rowB.sz l9 ≤ 67108864 by have h1 := ro.mvs_sz (n := m) (r := ⟨f.Start, f.Pending⟩) S18.out; rw [hx9] at h1; exact h1)
    clear hx9
    have SXA := Lib.hid SX.out.1
    have SXB := Lib.hid SX.out.2
    have ck8_0 : (w9).cell? ⟨w.heap.size, 0, none⟩ = some (.int .i64 f.Start) := F15.out.cell 0
    have ck8_1 : (w9).cell? ⟨w.heap.size, 1, none⟩ = some (.slice Af nf cf) := F15.out.cell 1
    go_wp2_with fail
    clear ck8_0 ck8_1
    (with_reducible refine (ux.toReorderBuffer F14.out S17.out).mono ?_)
    rintro e w19 hp
    obtain ⟨v24, fp23, rfl, ho, hb⟩ := hp.parts
    clear hp
    obtain ⟨A20, n21, c22, f9, rfl, _, _, _⟩ := ux.rob_o ho
    have F25 := Lib.hid ho
    clear ho
    have B26 := Lib.hid (B12.out.trans (hb.mono B12.out.size))
    have Z27 := Lib.hid hb.size
    have F28 := Lib.hid (F14.out.below hb)
    have F29 := Lib.hid (F15.out.below hb)
    clear hb B12 F14 F15
    have ck8_0 : (w19).cell? ⟨w.heap.size, 0, none⟩ = some (.int .i64 f.Start) := F29.out.cell 0
    have ck8_1 : (w19).cell? ⟨w.heap.size, 1, none⟩ = some (.slice Af nf cf) := F29.out.cell 1
    go_wp2_with fail
    clear ck8_0 ck8_1
    (with_reducible refine (HX.out ▸ ro.specMv f.Start f.Pending _ _ A20 n21 c22 m _ (ro.rob_rd F25.out.rd) (ro.rob_small (f := f) S18.out (ro.rob_rd F25.out.rd)) (ro.rob_bodies S18.out)).mono ?_)
    rintro e w30 hp
    obtain ⟨A31, n32, c33, A34, n35, c36, rfl, ho, hw, hb⟩ := ro.rr2_parts hp
    clear hp
    have F37 := Lib.hid (ro.rob_of (f := x9) ho)
    have F38 := Lib.hid hw
    clear ho hw
    have B39 := Lib.hid (B26.out.trans (hb.mono B26.out.size))
    have Z40 := Lib.hid hb.size
    have F41 := Lib.hid (F28.out.below hb)
    have F42 := Lib.hid (F25.out.below hb)
    have F43 := Lib.hid (F29.out.below hb)
    clear hb B26 F28 F25 F29
    clear F42
    obtain ⟨V44, hV44⟩ : ∃ x, x = w30.alloc (.cells #[.int .i64 x9.Start, .slice A31 n32 c33] 31) := ⟨_, rfl⟩
    have hb : Below w30.heap.size w30 V44 := by rw [hV44]; exact bx.below_box _ _
    have hz9 : w30.heap.size + 1 ≤ V44.heap.size := by rw [hV44]; simp
    have Z45 := Lib.hid hz9
    clear hz9
    have B46 := Lib.hid (B39.out.trans (hb.mono B39.out.size))
    have Z47 := Lib.hid hb.size
    have F48 := Lib.hid (F41.out.below hb)
    have F49 := Lib.hid (F37.out.below hb)
    have F50 := Lib.hid (F38.out.below hb)
    have F51 := Lib.hid (F43.out.below hb)
    clear hb B39 F41 F37 F38 F43
    have X52 := Lib.hid (show bx.Bx 31 V44 w30.heap.size #[.int .i64 x9.Start, .slice A31 n32 c33] by rw [hV44]; exact bx.Bx.made _ _ _)
    have ck8_0 : (w30.alloc (.cells #[.int .i64 x9.Start, .slice A31 n32 c33] 31)).cell? ⟨w.heap.size, 0, none⟩ = some (.int .i64 f.Start) := by rw [← hV44]; exact F51.out.cell 0
    have ck8_1 : (w30.alloc (.cells #[.int .i64 x9.Start, .slice A31 n32 c33] 31)).cell? ⟨w.heap.size, 1, none⟩ = some (.slice Af nf cf) := by rw [← hV44]; exact F51.out.cell 1
    have ck53_0 : (w30.alloc (.cells #[.int .i64 x9.Start, .slice A31 n32 c33] 31)).cell? ⟨w30.heap.size, 0, none⟩ = some (.int .i64 x9.Start) := by rw [← hV44]; exact X52.out.cell 0
    have ck53_1 : (w30.alloc (.cells #[.int .i64 x9.Start, .slice A31 n32 c33] 31)).cell? ⟨w30.heap.size, 1, none⟩ = some (.slice A31 n32 c33) := by rw [← hV44]; exact X52.out.cell 1
    go_wp2_with fail
    rw [← hV44]
    clear hV44 ck8_0 ck8_1 ck53_0 ck53_1
    (with_reducible refine (ux.toReorderBuffer F48.out S17.out).mono ?_)
    rintro e w54 hp
    obtain ⟨v59, fp58, rfl, ho, hb⟩ := hp.parts
    clear hp
    obtain ⟨A55, n56, c57, f9, rfl, _, _, _⟩ := ux.rob_o ho
    have F60 := Lib.hid ho
    clear ho
    have B61 := Lib.hid (B46.out.trans (hb.mono B46.out.size))
    have Z62 := Lib.hid hb.size
    have F63 := Lib.hid (F48.out.below hb)
    have F64 := Lib.hid (F49.out.below hb)
    have F65 := Lib.hid (F50.out.below hb)
    have F66 := Lib.hid (F51.out.below hb)
    have F67 := Lib.hid (X52.out.below hb)
    clear hb B46 F48 F49 F50 F51 X52
    obtain ⟨V68, hV68⟩ : ∃ x, x = w54.alloc (.cells #[.int .i64 f.Start, .slice A55 n56 c57] 31) := ⟨_, rfl⟩
    have hb : Below w54.heap.size w54 V68 := by rw [hV68]; exact bx.below_box _ _
    have hz9 : w54.heap.size + 1 ≤ V68.heap.size := by rw [hV68]; simp
    have Z69 := Lib.hid hz9
    clear hz9
    have B70 := Lib.hid (B61.out.trans (hb.mono B61.out.size))
    have Z71 := Lib.hid hb.size
    have F72 := Lib.hid (F63.out.below hb)
    have F73 := Lib.hid (F64.out.below hb)
    have F74 := Lib.hid (F65.out.below hb)
    have F75 := Lib.hid (F60.out.below hb)
    have F76 := Lib.hid (F66.out.below hb)
    have F77 := Lib.hid (F67.out.below hb)
    clear hb B61 F63 F64 F65 F60 F66 F67
    have X78 := Lib.hid (show bx.Bx 31 V68 w54.heap.size #[.int .i64 f.Start, .slice A55 n56 c57] by rw [hV68]; exact bx.Bx.made _ _ _)
    have ck8_0 : (w54.alloc (.cells #[.int .i64 f.Start, .slice A55 n56 c57] 31)).cell? ⟨w.heap.size, 0, none⟩ = some (.int .i64 f.Start) := by rw [← hV68]; exact F76.out.cell 0
    have ck8_1 : (w54.alloc (.cells #[.int .i64 f.Start, .slice A55 n56 c57] 31)).cell? ⟨w.heap.size, 1, none⟩ = some (.slice Af nf cf) := by rw [← hV68]; exact F76.out.cell 1
    have ck53_0 : (w54.alloc (.cells #[.int .i64 f.Start, .slice A55 n56 c57] 31)).cell? ⟨w30.heap.size, 0, none⟩ = some (.int .i64 x9.Start) := by rw [← hV68]; exact F77.out.cell 0
    have ck53_1 : (w54.alloc (.cells #[.int .i64 f.Start, .slice A55 n56 c57] 31)).cell? ⟨w30.heap.size, 1, none⟩ = some (.slice A31 n32 c33) := by rw [← hV68]; exact F77.out.cell 1
    have ck79_0 : (w54.alloc (.cells #[.int .i64 f.Start, .slice A55 n56 c57] 31)).cell? ⟨w54.heap.size, 0, none⟩ = some (.int .i64 f.Start) := by rw [← hV68]; exact X78.out.cell 0
    have ck79_1 : (w54.alloc (.cells #[.int .i64 f.Start, .slice A55 n56 c57] 31)).cell? ⟨w54.heap.size, 1, none⟩ = some (.slice A55 n56 c57) := by rw [← hV68]; exact X78.out.cell 1
    go_wp2_with fail
    rw [← hV68]
    clear hV68 ck8_0 ck8_1 ck53_0 ck53_1 ck79_0 ck79_1
    (with_reducible refine (HX.out ▸ ro.implMv f.Start f.Pending _ _ A55 n56 c57 m _ (ro.rob_rd F75.out.rd) (ro.rob_small (f := f) S18.out (ro.rob_rd F75.out.rd)) (ro.rob_bodies S18.out)).mono ?_)
    rintro e w80 hp
    obtain ⟨A81, n82, c83, fp87, A84, n85, c86, fp88, rfl, ho, hw, hap, hb⟩ := ro.r2_parts hp
    clear hp
    have HAP89 := Lib.hid hap
    have ho2 := ro.rob_oo (f := x9) ho
    clear ho hap
    have F90 := Lib.hid ho2
    clear ho2
    have F91 := Lib.hid hw
    clear hw
    have B92 := Lib.hid (B70.out.trans (hb.mono B70.out.size))
    have Z93 := Lib.hid hb.size
    have F94 := Lib.hid (F72.out.below hb)
    have F95 := Lib.hid (F73.out.below hb)
    have F96 := Lib.hid (F74.out.below hb)
    have F97 := Lib.hid (F75.out.below hb)
    have F98 := Lib.hid (F76.out.below hb)
    have F99 := Lib.hid (F77.out.below hb)
    have F100 := Lib.hid (X78.out.below hb)
    clear hb B70 F72 F73 F74 F75 F76 F77 X78
    obtain ⟨V101, hV101⟩ : ∃ x, x = w80.alloc (.cells #[.int .i64 x9.Start, .slice A81 n82 c83] 31) := ⟨_, rfl⟩
    have hb : Below w80.heap.size w80 V101 := by rw [hV101]; exact bx.below_box _ _
    have hz9 : w80.heap.size + 1 ≤ V101.heap.size := by rw [hV101]; simp
    have Z102 := Lib.hid hz9
    clear hz9
    have B103 := Lib.hid (B92.out.trans (hb.mono B92.out.size))
    have Z104 := Lib.hid hb.size
    have F105 := Lib.hid (F94.out.below hb)
    have F106 := Lib.hid (F95.out.below hb)
    have F107 := Lib.hid (F96.out.below hb)
    have F108 := Lib.hid (F97.out.below hb)
    have F109 := Lib.hid (F90.out.below hb)
    have F110 := Lib.hid (F91.out.below hb)
    have F111 := Lib.hid (F98.out.below hb)
    have F112 := Lib.hid (F99.out.below hb)
    have F113 := Lib.hid (F100.out.below hb)
    clear hb B92 F94 F95 F96 F97 F90 F91 F98 F99 F100
    have X114 := Lib.hid (show bx.Bx 31 V101 w80.heap.size #[.int .i64 x9.Start, .slice A81 n82 c83] by rw [hV101]; exact bx.Bx.made _ _ _)
    have ck8_0 : (w80.alloc (.cells #[.int .i64 x9.Start, .slice A81 n82 c83] 31)).cell? ⟨w.heap.size, 0, none⟩ = some (.int .i64 f.Start) := by rw [← hV101]; exact F111.out.cell 0
    have ck8_1 : (w80.alloc (.cells #[.int .i64 x9.Start, .slice A81 n82 c83] 31)).cell? ⟨w.heap.size, 1, none⟩ = some (.slice Af nf cf) := by rw [← hV101]; exact F111.out.cell 1
    have ck53_0 : (w80.alloc (.cells #[.int .i64 x9.Start, .slice A81 n82 c83] 31)).cell? ⟨w30.heap.size, 0, none⟩ = some (.int .i64 x9.Start) := by rw [← hV101]; exact F112.out.cell 0
    have ck53_1 : (w80.alloc (.cells #[.int .i64 x9.Start, .slice A81 n82 c83] 31)).cell? ⟨w30.heap.size, 1, none⟩ = some (.slice A31 n32 c33) := by rw [← hV101]; exact F112.out.cell 1
    have ck79_0 : (w80.alloc (.cells #[.int .i64 x9.Start, .slice A81 n82 c83] 31)).cell? ⟨w54.heap.size, 0, none⟩ = some (.int .i64 f.Start) := by rw [← hV101]; exact F113.out.cell 0
    have ck79_1 : (w80.alloc (.cells #[.int .i64 x9.Start, .slice A81 n82 c83] 31)).cell? ⟨w54.heap.size, 1, none⟩ = some (.slice A55 n56 c57) := by rw [← hV101]; exact F113.out.cell 1
    have ck115_0 : (w80.alloc (.cells #[.int .i64 x9.Start, .slice A81 n82 c83] 31)).cell? ⟨w80.heap.size, 0, none⟩ = some (.int .i64 x9.Start) := by rw [← hV101]; exact X114.out.cell 0
    have ck115_1 : (w80.alloc (.cells #[.int .i64 x9.Start, .slice A81 n82 c83] 31)).cell? ⟨w80.heap.size, 1, none⟩ = some (.slice A81 n82 c83) := by rw [← hV101]; exact X114.out.cell 1
    go_wp2_with fail
    rw [← hV101]
    clear hV101 ck8_0 ck8_1 ck53_0 ck53_1 ck79_0 ck79_1 ck115_0 ck115_1
    (with_reducible refine (ux.eqReorderBuffer F109.out.rd F106.out).mono ?_)
    rintro e w116 hp
    obtain ⟨rfl, hb⟩ := bx.b_parts rfl hp
    clear hp
    have B117 := Lib.hid (B103.out.trans (hb.mono B103.out.size))
    have Z118 := Lib.hid hb.size
    have F119 := Lib.hid (F105.out.below hb)
    have F120 := Lib.hid (F106.out.below hb)
    have F121 := Lib.hid (F107.out.below hb)
    have F122 := Lib.hid (F108.out.below hb)
    have F123 := Lib.hid (F109.out.below hb)
    have F124 := Lib.hid (F110.out.below hb)
    have F125 := Lib.hid (F111.out.below hb)
    have F126 := Lib.hid (F112.out.below hb)
    have F127 := Lib.hid (F113.out.below hb)
    have F128 := Lib.hid (X114.out.below hb)
    clear hb B103 F105 F106 F107 F108 F109 F110 F111 F112 F113 X114
    have ck8_0 : (w116).cell? ⟨w.heap.size, 0, none⟩ = some (.int .i64 f.Start) := F125.out.cell 0
    have ck8_1 : (w116).cell? ⟨w.heap.size, 1, none⟩ = some (.slice Af nf cf) := F125.out.cell 1
    have ck53_0 : (w116).cell? ⟨w30.heap.size, 0, none⟩ = some (.int .i64 x9.Start) := F126.out.cell 0
    have ck53_1 : (w116).cell? ⟨w30.heap.size, 1, none⟩ = some (.slice A31 n32 c33) := F126.out.cell 1
    have ck79_0 : (w116).cell? ⟨w54.heap.size, 0, none⟩ = some (.int .i64 f.Start) := F127.out.cell 0
    have ck79_1 : (w116).cell? ⟨w54.heap.size, 1, none⟩ = some (.slice A55 n56 c57) := F127.out.cell 1
    have ck115_0 : (w116).cell? ⟨w80.heap.size, 0, none⟩ = some (.int .i64 x9.Start) := F128.out.cell 0
    have ck115_1 : (w116).cell? ⟨w80.heap.size, 1, none⟩ = some (.slice A81 n82 c83) := F128.out.cell 1
    go_wp2_with fail
    clear ck8_0 ck8_1 ck53_0 ck53_1 ck79_0 ck79_1 ck115_0 ck115_1
    (with_reducible refine (ux.eqByteSS F124.out.rd F121.out).mono ?_)
    rintro e w129 hp
    obtain ⟨rfl, hb⟩ := bx.b_parts rfl hp
    clear hp
    have B130 := Lib.hid (B117.out.trans (hb.mono B117.out.size))
    have Z131 := Lib.hid hb.size
    have F132 := Lib.hid (F119.out.below hb)
    have F133 := Lib.hid (F120.out.below hb)
    have F134 := Lib.hid (F121.out.below hb)
    have F135 := Lib.hid (F122.out.below hb)
    have F136 := Lib.hid (F123.out.below hb)
    have F137 := Lib.hid (F124.out.below hb)
    have F138 := Lib.hid (F125.out.below hb)
    have F139 := Lib.hid (F126.out.below hb)
    have F140 := Lib.hid (F127.out.below hb)
    have F141 := Lib.hid (F128.out.below hb)
    clear hb B117 F119 F120 F121 F122 F123 F124 F125 F126 F127 F128
    have ck8_0 : (w129).cell? ⟨w.heap.size, 0, none⟩ = some (.int .i64 f.Start) := F138.out.cell 0
    have ck8_1 : (w129).cell? ⟨w.heap.size, 1, none⟩ = some (.slice Af nf cf) := F138.out.cell 1
    have ck53_0 : (w129).cell? ⟨w30.heap.size, 0, none⟩ = some (.int .i64 x9.Start) := F139.out.cell 0
    have ck53_1 : (w129).cell? ⟨w30.heap.size, 1, none⟩ = some (.slice A31 n32 c33) := F139.out.cell 1
    have ck79_0 : (w129).cell? ⟨w54.heap.size, 0, none⟩ = some (.int .i64 f.Start) := F140.out.cell 0
    have ck79_1 : (w129).cell? ⟨w54.heap.size, 1, none⟩ = some (.slice A55 n56 c57) := F140.out.cell 1
    have ck115_0 : (w129).cell? ⟨w80.heap.size, 0, none⟩ = some (.int .i64 x9.Start) := F141.out.cell 0
    have ck115_1 : (w129).cell? ⟨w80.heap.size, 1, none⟩ = some (.slice A81 n82 c83) := F141.out.cell 1
    go_wp2_with fail
    clear ck8_0 ck8_1 ck53_0 ck53_1 ck79_0 ck79_1 ck115_0 ck115_1
    have hb : Below w129.heap.size w129 w129.drew := own.below_drew (Below.refl _ _)
    have B142 := Lib.hid (B130.out.trans (hb.mono B130.out.size))
    have Z143 := Lib.hid hb.size
    have F144 := Lib.hid (F132.out.below hb)
    have F145 := Lib.hid (F133.out.below hb)
    have F146 := Lib.hid (F134.out.below hb)
    have F147 := Lib.hid (F135.out.below hb)
    have F148 := Lib.hid (F136.out.below hb)
    have F149 := Lib.hid (F137.out.below hb)
    have F150 := Lib.hid (F138.out.below hb)
    have F151 := Lib.hid (F139.out.below hb)
    have F152 := Lib.hid (F140.out.below hb)
    have F153 := Lib.hid (F141.out.below hb)
    clear hb B130 F132 F133 F134 F135 F136 F137 F138 F139 F140 F141
    have cak79_0 : (w129.drew).cell? ⟨w54.heap.size, 0, none⟩ = some (.int .i64 f.Start) := F152.out.cell 0
    have cak79_1 : (w129.drew).cell? ⟨w54.heap.size, 1, none⟩ = some (.slice A55 n56 c57) := F152.out.cell 1
    have cak8_0 : (w129.drew).cell? ⟨w.heap.size, 0, none⟩ = some (.int .i64 f.Start) := F150.out.cell 0
    have cak8_1 : (w129.drew).cell? ⟨w.heap.size, 1, none⟩ = some (.slice Af nf cf) := F150.out.cell 1
    go_region_held3 (fun w' => w'.cell? ⟨w54.heap.size, 0, none⟩ = some (.int .i64 f.Start) ∧ w'.cell? ⟨w54.heap.size, 1, none⟩ = some (.slice A55 n56 c57) ∧ w'.cell? ⟨w.heap.size, 0, none⟩ = some (.int .i64 f.Start) ∧ w'.cell? ⟨w.heap.size, 1, none⟩ = some (.slice Af nf cf)) (first | (with_reducible exact ⟨cak79_0, cak79_1, cak8_0, cak8_1⟩) | (with_reducible exact ⟨cbk79_0, cbk79_1, cbk8_0, cbk8_1⟩) | (with_reducible exact ⟨cdk79_0, cdk79_1, cdk8_0, cdk8_1⟩))
      (first
      | (go_at_call 36; refine (ux.toReorderBuffer F144.out S17.out).mono ?_; rintro e w154 hp; obtain ⟨v159, fp158, rfl, ho, hb⟩ := hp.parts; clear hp; obtain ⟨A155, n156, c157, f9, rfl, _, _, _⟩ := ux.rob_o ho; have F160 := Lib.hid ho; clear ho; have B161 := Lib.hid (B142.out.trans (hb.mono B142.out.size)); have Z162 := Lib.hid hb.size; have F163 := Lib.hid (F144.out.below hb); have F164 := Lib.hid (F145.out.below hb); have F165 := Lib.hid (F146.out.below hb); have F166 := Lib.hid (F147.out.below hb); have F167 := Lib.hid (F148.out.below hb); have F168 := Lib.hid (F149.out.below hb); have F169 := Lib.hid (F150.out.below hb); have F170 := Lib.hid (F151.out.below hb); have F171 := Lib.hid (F152.out.below hb); have F172 := Lib.hid (F153.out.below hb); clear hb B142 F144 F145 F146 F147 F148 F149 F150 F151 F152 F153; have cbk79_0 : (w154).cell? ⟨w54.heap.size, 0, none⟩ = some (.int .i64 f.Start) := F171.out.cell 0; have cbk79_1 : (w154).cell? ⟨w54.heap.size, 1, none⟩ = some (.slice A55 n56 c57) := F171.out.cell 1; have cbk8_0 : (w154).cell? ⟨w.heap.size, 0, none⟩ = some (.int .i64 f.Start) := F169.out.cell 0; have cbk8_1 : (w154).cell? ⟨w.heap.size, 1, none⟩ = some (.slice Af nf cf) := F169.out.cell 1)
      | (go_at_call 32; refine (ux.eqReorderBuffer F166.out.rd F160.out.rd).mono ?_; rintro e w173 hp; obtain ⟨rfl, hb⟩ := bx.b_parts rfl hp; clear hp; have B174 := Lib.hid (B161.out.trans (hb.mono B161.out.size)); have Z175 := Lib.hid hb.size; have F176 := Lib.hid (F163.out.below hb); have F177 := Lib.hid (F164.out.below hb); have F178 := Lib.hid (F165.out.below hb); have F179 := Lib.hid (F166.out.below hb); have F180 := Lib.hid (F167.out.below hb); have F181 := Lib.hid (F168.out.below hb); have F182 := Lib.hid (F160.out.below hb); have F183 := Lib.hid (F169.out.below hb); have F184 := Lib.hid (F170.out.below hb); have F185 := Lib.hid (F171.out.below hb); have F186 := Lib.hid (F172.out.below hb); clear hb B161 F163 F164 F165 F166 F167 F168 F160 F169 F170 F171 F172; have cdk79_0 : (w173).cell? ⟨w54.heap.size, 0, none⟩ = some (.int .i64 f.Start) := F185.out.cell 0; have cdk79_1 : (w173).cell? ⟨w54.heap.size, 1, none⟩ = some (.slice A55 n56 c57) := F185.out.cell 1; have cdk8_0 : (w173).cell? ⟨w.heap.size, 0, none⟩ = some (.int .i64 f.Start) := F183.out.cell 0; have cdk8_1 : (w173).cell? ⟨w.heap.size, 1, none⟩ = some (.slice Af nf cf) := F183.out.cell 1))
    clear cak79_0 cak79_1 cak8_0 cak8_1 cbk79_0 cbk79_1 cbk8_0 cbk8_1 cdk79_0 cdk79_1 cdk8_0 cdk8_1
    clear F182
    have ck8_0 : (w173).cell? ⟨w.heap.size, 0, none⟩ = some (.int .i64 f.Start) := F183.out.cell 0
    have ck8_1 : (w173).cell? ⟨w.heap.size, 1, none⟩ = some (.slice Af nf cf) := F183.out.cell 1
    have ck53_0 : (w173).cell? ⟨w30.heap.size, 0, none⟩ = some (.int .i64 x9.Start) := F184.out.cell 0
    have ck53_1 : (w173).cell? ⟨w30.heap.size, 1, none⟩ = some (.slice A31 n32 c33) := F184.out.cell 1
    have ck79_0 : (w173).cell? ⟨w54.heap.size, 0, none⟩ = some (.int .i64 f.Start) := F185.out.cell 0
    have ck79_1 : (w173).cell? ⟨w54.heap.size, 1, none⟩ = some (.slice A55 n56 c57) := F185.out.cell 1
    have ck115_0 : (w173).cell? ⟨w80.heap.size, 0, none⟩ = some (.int .i64 x9.Start) := F186.out.cell 0
    have ck115_1 : (w173).cell? ⟨w80.heap.size, 1, none⟩ = some (.slice A81 n82 c83) := F186.out.cell 1
    go_wp2_with fail
    clear ck8_0 ck8_1 ck53_0 ck53_1 ck79_0 ck79_1 ck115_0 ck115_1
    (with_reducible refine (ux.markReorderBuffer 1 F179.out (by have h1 := ro.rob_bd f; have h2 := (show (0:Int) ≤ 1 ∧ (1:Int) ≤ 4294967360 by omega); have h3 := S17.out; omega) S17.out).mono ?_)
    rintro e w187 hp
    obtain ⟨rfl, ho, hb⟩ := hp.parts
    clear hp
    obtain ⟨k1, hk9⟩ : ∃ k : Int, 1 + (ux.rob_tv f : Nat) = k := ⟨_, rfl⟩
    have Hk1 := Lib.hid hk9
    have Kk1 := Lib.hid (show 0 ≤ k1 ∧ k1 ≤ 1 + 4294967360 by have h1 := ro.rob_bd f; have h2 := (show (0:Int) ≤ 1 ∧ (1:Int) ≤ 4294967360 by omega); have h3 := S17.out; omega)
    have ngk1 : ¬ k1 < 0 := by have := Kk1.out; omega
    (first | rw [hk9] | (change Code.wp _ _ _ _ _; rw [hk9]) | skip)
    clear hk9
    have F188 := Lib.hid ho
    clear ho
    have B189 := Lib.hid (B174.out.trans (ux.ks_bel hb (fun b hb => by have z0 := Z3.out; have z1 := Z5.out; have z2 := Z13.out; have z3 := Z27.out; have z4 := Z40.out; have z5 := Z45.out; have z6 := Z47.out; have z7 := Z62.out; have z8 := Z69.out; have z9 := Z71.out; have z10 := Z93.out; have z11 := Z102.out; have z12 := Z104.out; have z13 := Z118.out; have z14 := Z131.out; have z15 := Z143.out; have z16 := Z162.out; have z17 := Z175.out; have zB := B174.out.size; have := F188.out.inn b hb; omega) B174.out.size))
    have Z190 := Lib.hid hb.size
    have F191 := Lib.hid (F176.out.ks hb (fun b h1 h2 h3 => by have z0 := Z3.out; have z1 := Z5.out; have z2 := Z13.out; have z3 := Z27.out; have z4 := Z40.out; have z5 := Z45.out; have z6 := Z47.out; have z7 := Z62.out; have z8 := Z69.out; have z9 := Z71.out; have z10 := Z93.out; have z11 := Z102.out; have z12 := Z104.out; have z13 := Z118.out; have z14 := Z131.out; have z15 := Z143.out; have z16 := Z162.out; have z17 := Z175.out; have z18 := Z190.out; have q2 := F188.out.inn b h3; omega))
    have F192 := Lib.hid (F177.out.ks hb (fun b h1 h2 h3 => by have z0 := Z3.out; have z1 := Z5.out; have z2 := Z13.out; have z3 := Z27.out; have z4 := Z40.out; have z5 := Z45.out; have z6 := Z47.out; have z7 := Z62.out; have z8 := Z69.out; have z9 := Z71.out; have z10 := Z93.out; have z11 := Z102.out; have z12 := Z104.out; have z13 := Z118.out; have z14 := Z131.out; have z15 := Z143.out; have z16 := Z162.out; have z17 := Z175.out; have z18 := Z190.out; have q2 := F188.out.inn b h3; omega))
    have F193 := Lib.hid (F178.out.ks hb (fun b h1 h2 h3 => by have z0 := Z3.out; have z1 := Z5.out; have z2 := Z13.out; have z3 := Z27.out; have z4 := Z40.out; have z5 := Z45.out; have z6 := Z47.out; have z7 := Z62.out; have z8 := Z69.out; have z9 := Z71.out; have z10 := Z93.out; have z11 := Z102.out; have z12 := Z104.out; have z13 := Z118.out; have z14 := Z131.out; have z15 := Z143.out; have z16 := Z162.out; have z17 := Z175.out; have z18 := Z190.out; have q2 := F188.out.inn b h3; omega))
    have F194 := Lib.hid (F180.out.ks hb (fun b h1 h2 => by have z0 := Z3.out; have z1 := Z5.out; have z2 := Z13.out; have z3 := Z27.out; have z4 := Z40.out; have z5 := Z45.out; have z6 := Z47.out; have z7 := Z62.out; have z8 := Z69.out; have z9 := Z71.out; have z10 := Z93.out; have z11 := Z102.out; have z12 := Z104.out; have z13 := Z118.out; have z14 := Z131.out; have z15 := Z143.out; have z16 := Z162.out; have z17 := Z175.out; have z18 := Z190.out; have q1 := F180.out.inn b h1; have q2 := F188.out.inn b h2; omega))
    have F195 := Lib.hid (F181.out.ks hb (fun b h1 h2 => by have z0 := Z3.out; have z1 := Z5.out; have z2 := Z13.out; have z3 := Z27.out; have z4 := Z40.out; have z5 := Z45.out; have z6 := Z47.out; have z7 := Z62.out; have z8 := Z69.out; have z9 := Z71.out; have z10 := Z93.out; have z11 := Z102.out; have z12 := Z104.out; have z13 := Z118.out; have z14 := Z131.out; have z15 := Z143.out; have z16 := Z162.out; have z17 := Z175.out; have z18 := Z190.out; have q1 := F181.out.inn b h1; have q2 := F188.out.inn b h2; omega))
    have F196 := Lib.hid (fr.bx_ks F183.out hb (fun h3 => by have z0 := Z3.out; have z1 := Z5.out; have z2 := Z13.out; have z3 := Z27.out; have z4 := Z40.out; have z5 := Z45.out; have z6 := Z47.out; have z7 := Z62.out; have z8 := Z69.out; have z9 := Z71.out; have z10 := Z93.out; have z11 := Z102.out; have z12 := Z104.out; have z13 := Z118.out; have z14 := Z131.out; have z15 := Z143.out; have z16 := Z162.out; have z17 := Z175.out; have z18 := Z190.out; have q2 := F188.out.inn _ h3; omega))
    have F197 := Lib.hid (fr.bx_ks F184.out hb (fun h3 => by have z0 := Z3.out; have z1 := Z5.out; have z2 := Z13.out; have z3 := Z27.out; have z4 := Z40.out; have z5 := Z45.out; have z6 := Z47.out; have z7 := Z62.out; have z8 := Z69.out; have z9 := Z71.out; have z10 := Z93.out; have z11 := Z102.out; have z12 := Z104.out; have z13 := Z118.out; have z14 := Z131.out; have z15 := Z143.out; have z16 := Z162.out; have z17 := Z175.out; have z18 := Z190.out; have q2 := F188.out.inn _ h3; omega))
    have F198 := Lib.hid (fr.bx_ks F185.out hb (fun h3 => by have z0 := Z3.out; have z1 := Z5.out; have z2 := Z13.out; have z3 := Z27.out; have z4 := Z40.out; have z5 := Z45.out; have z6 := Z47.out; have z7 := Z62.out; have z8 := Z69.out; have z9 := Z71.out; have z10 := Z93.out; have z11 := Z102.out; have z12 := Z104.out; have z13 := Z118.out; have z14 := Z131.out; have z15 := Z143.out; have z16 := Z162.out; have z17 := Z175.out; have z18 := Z190.out; have q2 := F188.out.inn _ h3; omega))
    have F199 := Lib.hid (fr.bx_ks F186.out hb (fun h3 => by have z0 := Z3.out; have z1 := Z5.out; have z2 := Z13.out; have z3 := Z27.out; have z4 := Z40.out; have z5 := Z45.out; have z6 := Z47.out; have z7 := Z62.out; have z8 := Z69.out; have z9 := Z71.out; have z10 := Z93.out; have z11 := Z102.out; have z12 := Z104.out; have z13 := Z118.out; have z14 := Z131.out; have z15 := Z143.out; have z16 := Z162.out; have z17 := Z175.out; have z18 := Z190.out; have q2 := F188.out.inn _ h3; omega))
    clear hb B174 F176 F177 F178 F180 F181 F183 F184 F185 F186
    clear F179
    clear F198
    clear F188
    have ck8_0 : (w187).cell? ⟨w.heap.size, 0, none⟩ = some (.int .i64 f.Start) := F196.out.cell 0
    have ck8_1 : (w187).cell? ⟨w.heap.size, 1, none⟩ = some (.slice Af nf cf) := F196.out.cell 1
    have ck53_0 : (w187).cell? ⟨w30.heap.size, 0, none⟩ = some (.int .i64 x9.Start) := F197.out.cell 0
    have ck53_1 : (w187).cell? ⟨w30.heap.size, 1, none⟩ = some (.slice A31 n32 c33) := F197.out.cell 1
    have ck115_0 : (w187).cell? ⟨w80.heap.size, 0, none⟩ = some (.int .i64 x9.Start) := F199.out.cell 0
    have ck115_1 : (w187).cell? ⟨w80.heap.size, 1, none⟩ = some (.slice A81 n82 c83) := F199.out.cell 1
    go_wp2_with fail
    clear ck8_0 ck8_1 ck53_0 ck53_1 ck115_0 ck115_1
    (with_reducible refine (ux.eqReorderBuffer F194.out.rd F192.out).mono ?_)
    rintro e w200 hp
    obtain ⟨rfl, hb⟩ := bx.b_parts rfl hp
    clear hp
    have B201 := Lib.hid (B189.out.trans (hb.mono B189.out.size))
    have Z202 := Lib.hid hb.size
    have F203 := Lib.hid (F191.out.below hb)
    have F204 := Lib.hid (F192.out.below hb)
    have F205 := Lib.hid (F193.out.below hb)
    have F206 := Lib.hid (F194.out.below hb)
    have F207 := Lib.hid (F195.out.below hb)
    have F208 := Lib.hid (F196.out.below hb)
    have F209 := Lib.hid (F197.out.below hb)
    have F210 := Lib.hid (F199.out.below hb)
    clear hb B189 F191 F192 F193 F194 F195 F196 F197 F199
    have ck8_0 : (w200).cell? ⟨w.heap.size, 0, none⟩ = some (.int .i64 f.Start) := F208.out.cell 0
    have ck8_1 : (w200).cell? ⟨w.heap.size, 1, none⟩ = some (.slice Af nf cf) := F208.out.cell 1
    have ck53_0 : (w200).cell? ⟨w30.heap.size, 0, none⟩ = some (.int .i64 x9.Start) := F209.out.cell 0
    have ck53_1 : (w200).cell? ⟨w30.heap.size, 1, none⟩ = some (.slice A31 n32 c33) := F209.out.cell 1
    have ck115_0 : (w200).cell? ⟨w80.heap.size, 0, none⟩ = some (.int .i64 x9.Start) := F210.out.cell 0
    have ck115_1 : (w200).cell? ⟨w80.heap.size, 1, none⟩ = some (.slice A81 n82 c83) := F210.out.cell 1
    go_wp2_with fail
    clear ck8_0 ck8_1 ck53_0 ck53_1 ck115_0 ck115_1
    (with_reducible refine (ux.eqByteSS F207.out.rd F205.out).mono ?_)
    rintro e w211 hp
    obtain ⟨rfl, hb⟩ := bx.b_parts rfl hp
    clear hp
    have B212 := Lib.hid (B201.out.trans (hb.mono B201.out.size))
    have Z213 := Lib.hid hb.size
    have F214 := Lib.hid (F203.out.below hb)
    have F215 := Lib.hid (F204.out.below hb)
    have F216 := Lib.hid (F205.out.below hb)
    have F217 := Lib.hid (F206.out.below hb)
    have F218 := Lib.hid (F207.out.below hb)
    have F219 := Lib.hid (F208.out.below hb)
    have F220 := Lib.hid (F209.out.below hb)
    have F221 := Lib.hid (F210.out.below hb)
    clear hb B201 F203 F204 F205 F206 F207 F208 F209 F210
    have ck8_0 : (w211).cell? ⟨w.heap.size, 0, none⟩ = some (.int .i64 f.Start) := F219.out.cell 0
    have ck8_1 : (w211).cell? ⟨w.heap.size, 1, none⟩ = some (.slice Af nf cf) := F219.out.cell 1
    have ck53_0 : (w211).cell? ⟨w30.heap.size, 0, none⟩ = some (.int .i64 x9.Start) := F220.out.cell 0
    have ck53_1 : (w211).cell? ⟨w30.heap.size, 1, none⟩ = some (.slice A31 n32 c33) := F220.out.cell 1
    have ck115_0 : (w211).cell? ⟨w80.heap.size, 0, none⟩ = some (.int .i64 x9.Start) := F221.out.cell 0
    have ck115_1 : (w211).cell? ⟨w80.heap.size, 1, none⟩ = some (.slice A81 n82 c83) := F221.out.cell 1
    go_wp2_with fail
    clear ck8_0 ck8_1 ck53_0 ck53_1 ck115_0 ck115_1
    (with_reducible refine (ux.markReorderBuffer 1 F217.out (by have h1 := ro.rob_bd x9; have h2 := (show (0:Int) ≤ 1 ∧ (1:Int) ≤ 4294967360 by omega); have h3 := SXA.out; omega) SXA.out).mono ?_)
    rintro e w222 hp
    obtain ⟨rfl, ho, hb⟩ := hp.parts
    clear hp
    obtain ⟨m1, hk9⟩ : ∃ k : Int, 1 + (ux.rob_tv x9 : Nat) = k := ⟨_, rfl⟩
    have Hm1 := Lib.hid hk9
    have Km1 := Lib.hid (show 0 ≤ m1 ∧ m1 ≤ 1 + 4294967360 by have h1 := ro.rob_bd x9; have h2 := (show (0:Int) ≤ 1 ∧ (1:Int) ≤ 4294967360 by omega); have h3 := SXA.out; omega)
    have ngm1 : ¬ m1 < 0 := by have := Km1.out; omega
    (first | rw [hk9] | (change Code.wp _ _ _ _ _; rw [hk9]) | skip)
    clear hk9
    have F223 := Lib.hid ho
    clear ho
    have B224 := Lib.hid (B212.out.trans (ux.ks_bel hb (fun b hb => by have z0 := Z3.out; have z1 := Z5.out; have z2 := Z13.out; have z3 := Z27.out; have z4 := Z40.out; have z5 := Z45.out; have z6 := Z47.out; have z7 := Z62.out; have z8 := Z69.out; have z9 := Z71.out; have z10 := Z93.out; have z11 := Z102.out; have z12 := Z104.out; have z13 := Z118.out; have z14 := Z131.out; have z15 := Z143.out; have z16 := Z162.out; have z17 := Z175.out; have z18 := Z190.out; have z19 := Z202.out; have z20 := Z213.out; have zB := B212.out.size; have := F223.out.inn b hb; omega) B212.out.size))
    have Z225 := Lib.hid hb.size
    have F226 := Lib.hid (F214.out.ks hb (fun b h1 h2 h3 => by have z0 := Z3.out; have z1 := Z5.out; have z2 := Z13.out; have z3 := Z27.out; have z4 := Z40.out; have z5 := Z45.out; have z6 := Z47.out; have z7 := Z62.out; have z8 := Z69.out; have z9 := Z71.out; have z10 := Z93.out; have z11 := Z102.out; have z12 := Z104.out; have z13 := Z118.out; have z14 := Z131.out; have z15 := Z143.out; have z16 := Z162.out; have z17 := Z175.out; have z18 := Z190.out; have z19 := Z202.out; have z20 := Z213.out; have z21 := Z225.out; have q2 := F223.out.inn b h3; omega))
    have F227 := Lib.hid (F215.out.ks hb (fun b h1 h2 h3 => by have z0 := Z3.out; have z1 := Z5.out; have z2 := Z13.out; have z3 := Z27.out; have z4 := Z40.out; have z5 := Z45.out; have z6 := Z47.out; have z7 := Z62.out; have z8 := Z69.out; have z9 := Z71.out; have z10 := Z93.out; have z11 := Z102.out; have z12 := Z104.out; have z13 := Z118.out; have z14 := Z131.out; have z15 := Z143.out; have z16 := Z162.out; have z17 := Z175.out; have z18 := Z190.out; have z19 := Z202.out; have z20 := Z213.out; have z21 := Z225.out; have q2 := F223.out.inn b h3; omega))
    have F228 := Lib.hid (F216.out.ks hb (fun b h1 h2 h3 => by have z0 := Z3.out; have z1 := Z5.out; have z2 := Z13.out; have z3 := Z27.out; have z4 := Z40.out; have z5 := Z45.out; have z6 := Z47.out; have z7 := Z62.out; have z8 := Z69.out; have z9 := Z71.out; have z10 := Z93.out; have z11 := Z102.out; have z12 := Z104.out; have z13 := Z118.out; have z14 := Z131.out; have z15 := Z143.out; have z16 := Z162.out; have z17 := Z175.out; have z18 := Z190.out; have z19 := Z202.out; have z20 := Z213.out; have z21 := Z225.out; have q2 := F223.out.inn b h3; omega))
    have F229 := Lib.hid (F218.out.ks hb (fun b h1 h2 => HAP89.out b h2 h1))
    have F230 := Lib.hid (fr.bx_ks F219.out hb (fun h3 => by have z0 := Z3.out; have z1 := Z5.out; have z2 := Z13.out; have z3 := Z27.out; have z4 := Z40.out; have z5 := Z45.out; have z6 := Z47.out; have z7 := Z62.out; have z8 := Z69.out; have z9 := Z71.out; have z10 := Z93.out; have z11 := Z102.out; have z12 := Z104.out; have z13 := Z118.out; have z14 := Z131.out; have z15 := Z143.out; have z16 := Z162.out; have z17 := Z175.out; have z18 := Z190.out; have z19 := Z202.out; have z20 := Z213.out; have z21 := Z225.out; have q2 := F223.out.inn _ h3; omega))
    have F231 := Lib.hid (fr.bx_ks F220.out hb (fun h3 => by have z0 := Z3.out; have z1 := Z5.out; have z2 := Z13.out; have z3 := Z27.out; have z4 := Z40.out; have z5 := Z45.out; have z6 := Z47.out; have z7 := Z62.out; have z8 := Z69.out; have z9 := Z71.out; have z10 := Z93.out; have z11 := Z102.out; have z12 := Z104.out; have z13 := Z118.out; have z14 := Z131.out; have z15 := Z143.out; have z16 := Z162.out; have z17 := Z175.out; have z18 := Z190.out; have z19 := Z202.out; have z20 := Z213.out; have z21 := Z225.out; have q2 := F223.out.inn _ h3; omega))
    have F232 := Lib.hid (fr.bx_ks F221.out hb (fun h3 => by have z0 := Z3.out; have z1 := Z5.out; have z2 := Z13.out; have z3 := Z27.out; have z4 := Z40.out; have z5 := Z45.out; have z6 := Z47.out; have z7 := Z62.out; have z8 := Z69.out; have z9 := Z71.out; have z10 := Z93.out; have z11 := Z102.out; have z12 := Z104.out; have z13 := Z118.out; have z14 := Z131.out; have z15 := Z143.out; have z16 := Z162.out; have z17 := Z175.out; have z18 := Z190.out; have z19 := Z202.out; have z20 := Z213.out; have z21 := Z225.out; have q2 := F223.out.inn _ h3; omega))
    clear hb B212 F214 F215 F216 F218 F219 F220 F221
    clear F217
    have ck8_0 : (w222).cell? ⟨w.heap.size, 0, none⟩ = some (.int .i64 f.Start) := F230.out.cell 0
    have ck8_1 : (w222).cell? ⟨w.heap.size, 1, none⟩ = some (.slice Af nf cf) := F230.out.cell 1
    have ck53_0 : (w222).cell? ⟨w30.heap.size, 0, none⟩ = some (.int .i64 x9.Start) := F231.out.cell 0
    have ck53_1 : (w222).cell? ⟨w30.heap.size, 1, none⟩ = some (.slice A31 n32 c33) := F231.out.cell 1
    have ck115_0 : (w222).cell? ⟨w80.heap.size, 0, none⟩ = some (.int .i64 x9.Start) := F232.out.cell 0
    have ck115_1 : (w222).cell? ⟨w80.heap.size, 1, none⟩ = some (.slice A81 n82 c83) := F232.out.cell 1
    go_wp2_with fail
    clear ck8_0 ck8_1 ck53_0 ck53_1 ck115_0 ck115_1
    (with_reducible refine (ux.markByteSS m1 F229.out (by have h1 := ro.rowB_bd l9; have h2 := Km1.out; have h3 := SXB.out; omega) SXB.out).mono ?_)
    rintro e w233 hp
    obtain ⟨rfl, ho, hb⟩ := hp.parts
    clear hp
    obtain ⟨m2, hk9⟩ : ∃ k : Int, m1 + (ux.rowB.tot l9 : Nat) = k := ⟨_, rfl⟩
    have Hm2 := Lib.hid hk9
    have Km2 := Lib.hid (show 0 ≤ m2 ∧ m2 ≤ m1 + 4294967360 by have h1 := ro.rowB_bd l9; have h2 := Km1.out; have h3 := SXB.out; omega)
    have ngm2 : ¬ m2 < 0 := by have := Km2.out; omega
    (first | rw [hk9] | (change Code.wp _ _ _ _ _; rw [hk9]) | skip)
    clear hk9
    have F234 := Lib.hid ho
    clear ho
    have B235 := Lib.hid (B224.out.trans (ux.ks_bel hb (fun b hb => by have z0 := Z3.out; have z1 := Z5.out; have z2 := Z13.out; have z3 := Z27.out; have z4 := Z40.out; have z5 := Z45.out; have z6 := Z47.out; have z7 := Z62.out; have z8 := Z69.out; have z9 := Z71.out; have z10 := Z93.out; have z11 := Z102.out; have z12 := Z104.out; have z13 := Z118.out; have z14 := Z131.out; have z15 := Z143.out; have z16 := Z162.out; have z17 := Z175.out; have z18 := Z190.out; have z19 := Z202.out; have z20 := Z213.out; have z21 := Z225.out; have zB := B224.out.size; have := F234.out.inn b hb; omega) B224.out.size))
    have Z236 := Lib.hid hb.size
    have F237 := Lib.hid (F226.out.ks hb (fun b h1 h2 h3 => by have z0 := Z3.out; have z1 := Z5.out; have z2 := Z13.out; have z3 := Z27.out; have z4 := Z40.out; have z5 := Z45.out; have z6 := Z47.out; have z7 := Z62.out; have z8 := Z69.out; have z9 := Z71.out; have z10 := Z93.out; have z11 := Z102.out; have z12 := Z104.out; have z13 := Z118.out; have z14 := Z131.out; have z15 := Z143.out; have z16 := Z162.out; have z17 := Z175.out; have z18 := Z190.out; have z19 := Z202.out; have z20 := Z213.out; have z21 := Z225.out; have z22 := Z236.out; have q2 := F234.out.inn b h3; omega))
    have F238 := Lib.hid (F227.out.ks hb (fun b h1 h2 h3 => by have z0 := Z3.out; have z1 := Z5.out; have z2 := Z13.out; have z3 := Z27.out; have z4 := Z40.out; have z5 := Z45.out; have z6 := Z47.out; have z7 := Z62.out; have z8 := Z69.out; have z9 := Z71.out; have z10 := Z93.out; have z11 := Z102.out; have z12 := Z104.out; have z13 := Z118.out; have z14 := Z131.out; have z15 := Z143.out; have z16 := Z162.out; have z17 := Z175.out; have z18 := Z190.out; have z19 := Z202.out; have z20 := Z213.out; have z21 := Z225.out; have z22 := Z236.out; have q2 := F234.out.inn b h3; omega))
    have F239 := Lib.hid (F228.out.ks hb (fun b h1 h2 h3 => by have z0 := Z3.out; have z1 := Z5.out; have z2 := Z13.out; have z3 := Z27.out; have z4 := Z40.out; have z5 := Z45.out; have z6 := Z47.out; have z7 := Z62.out; have z8 := Z69.out; have z9 := Z71.out; have z10 := Z93.out; have z11 := Z102.out; have z12 := Z104.out; have z13 := Z118.out; have z14 := Z131.out; have z15 := Z143.out; have z16 := Z162.out; have z17 := Z175.out; have z18 := Z190.out; have z19 := Z202.out; have z20 := Z213.out; have z21 := Z225.out; have z22 := Z236.out; have q2 := F234.out.inn b h3; omega))
    have F240 := Lib.hid (F223.out.ks hb (fun b h1 h2 => HAP89.out b h1 h2))
    have F241 := Lib.hid (fr.bx_ks F230.out hb (fun h3 => by have z0 := Z3.out; have z1 := Z5.out; have z2 := Z13.out; have z3 := Z27.out; have z4 := Z40.out; have z5 := Z45.out; have z6 := Z47.out; have z7 := Z62.out; have z8 := Z69.out; have z9 := Z71.out; have z10 := Z93.out; have z11 := Z102.out; have z12 := Z104.out; have z13 := Z118.out; have z14 := Z131.out; have z15 := Z143.out; have z16 := Z162.out; have z17 := Z175.out; have z18 := Z190.out; have z19 := Z202.out; have z20 := Z213.out; have z21 := Z225.out; have z22 := Z236.out; have q2 := F234.out.inn _ h3; omega))
    have F242 := Lib.hid (fr.bx_ks F231.out hb (fun h3 => by have z0 := Z3.out; have z1 := Z5.out; have z2 := Z13.out; have z3 := Z27.out; have z4 := Z40.out; have z5 := Z45.out; have z6 := Z47.out; have z7 := Z62.out; have z8 := Z69.out; have z9 := Z71.out; have z10 := Z93.out; have z11 := Z102.out; have z12 := Z104.out; have z13 := Z118.out; have z14 := Z131.out; have z15 := Z143.out; have z16 := Z162.out; have z17 := Z175.out; have z18 := Z190.out; have z19 := Z202.out; have z20 := Z213.out; have z21 := Z225.out; have z22 := Z236.out; have q2 := F234.out.inn _ h3; omega))
    have F243 := Lib.hid (fr.bx_ks F232.out hb (fun h3 => by have z0 := Z3.out; have z1 := Z5.out; have z2 := Z13.out; have z3 := Z27.out; have z4 := Z40.out; have z5 := Z45.out; have z6 := Z47.out; have z7 := Z62.out; have z8 := Z69.out; have z9 := Z71.out; have z10 := Z93.out; have z11 := Z102.out; have z12 := Z104.out; have z13 := Z118.out; have z14 := Z131.out; have z15 := Z143.out; have z16 := Z162.out; have z17 := Z175.out; have z18 := Z190.out; have z19 := Z202.out; have z20 := Z213.out; have z21 := Z225.out; have z22 := Z236.out; have q2 := F234.out.inn _ h3; omega))
    clear hb B224 F226 F227 F228 F223 F230 F231 F232
    clear F229
    have ck8_0 : (w233).cell? ⟨w.heap.size, 0, none⟩ = some (.int .i64 f.Start) := F241.out.cell 0
    have ck8_1 : (w233).cell? ⟨w.heap.size, 1, none⟩ = some (.slice Af nf cf) := F241.out.cell 1
    have ck53_0 : (w233).cell? ⟨w30.heap.size, 0, none⟩ = some (.int .i64 x9.Start) := F242.out.cell 0
    have ck53_1 : (w233).cell? ⟨w30.heap.size, 1, none⟩ = some (.slice A31 n32 c33) := F242.out.cell 1
    have ck115_0 : (w233).cell? ⟨w80.heap.size, 0, none⟩ = some (.int .i64 x9.Start) := F243.out.cell 0
    have ck115_1 : (w233).cell? ⟨w80.heap.size, 1, none⟩ = some (.slice A81 n82 c83) := F243.out.cell 1
    go_wp2_with fail
    clear ck8_0 ck8_1 ck53_0 ck53_1 ck115_0 ck115_1
    (with_reducible refine (ux.heldReorderBuffer 1 F240.out.rd (by have h1 := ro.rob_bd x9; have h2 := (show (0:Int) ≤ 1 ∧ (1:Int) ≤ 4294967360 by omega); have h3 := SXA.out; omega) SXA.out).mono ?_)
    rintro e w244 hp
    obtain ⟨rfl, hb⟩ := bx.n_parts Hm1.out hp
    clear hp
    have B245 := Lib.hid (B235.out.trans (hb.mono B235.out.size))
    have Z246 := Lib.hid hb.size
    have F247 := Lib.hid (F237.out.below hb)
    have F248 := Lib.hid (F238.out.below hb)
    have F249 := Lib.hid (F239.out.below hb)
    have F250 := Lib.hid (F240.out.below hb)
    have F251 := Lib.hid (F234.out.below hb)
    have F252 := Lib.hid (F241.out.below hb)
    have F253 := Lib.hid (F242.out.below hb)
    have F254 := Lib.hid (F243.out.below hb)
    clear hb B235 F237 F238 F239 F240 F234 F241 F242 F243
    have ck8_0 : (w244).cell? ⟨w.heap.size, 0, none⟩ = some (.int .i64 f.Start) := F252.out.cell 0
    have ck8_1 : (w244).cell? ⟨w.heap.size, 1, none⟩ = some (.slice Af nf cf) := F252.out.cell 1
    have ck53_0 : (w244).cell? ⟨w30.heap.size, 0, none⟩ = some (.int .i64 x9.Start) := F253.out.cell 0
    have ck53_1 : (w244).cell? ⟨w30.heap.size, 1, none⟩ = some (.slice A31 n32 c33) := F253.out.cell 1
    have ck115_0 : (w244).cell? ⟨w80.heap.size, 0, none⟩ = some (.int .i64 x9.Start) := F254.out.cell 0
    have ck115_1 : (w244).cell? ⟨w80.heap.size, 1, none⟩ = some (.slice A81 n82 c83) := F254.out.cell 1
    go_wp2_with fail
    clear ck8_0 ck8_1 ck53_0 ck53_1 ck115_0 ck115_1
    (with_reducible refine (ux.heldByteSS m1 F251.out.rd (by have h1 := ro.rowB_bd l9; have h2 := Km1.out; have h3 := SXB.out; omega) SXB.out).mono ?_)
    rintro e w255 hp
    obtain ⟨rfl, hb⟩ := bx.n_parts Hm2.out hp
    clear hp
    have B256 := Lib.hid (B245.out.trans (hb.mono B245.out.size))
    have Z257 := Lib.hid hb.size
    have F258 := Lib.hid (F247.out.below hb)
    have F259 := Lib.hid (F248.out.below hb)
    have F260 := Lib.hid (F249.out.below hb)
    have F261 := Lib.hid (F250.out.below hb)
    have F262 := Lib.hid (F251.out.below hb)
    have F263 := Lib.hid (F252.out.below hb)
    have F264 := Lib.hid (F253.out.below hb)
    have F265 := Lib.hid (F254.out.below hb)
    clear hb B245 F247 F248 F249 F250 F251 F252 F253 F254
    have ck8_0 : (w255).cell? ⟨w.heap.size, 0, none⟩ = some (.int .i64 f.Start) := F263.out.cell 0
    have ck8_1 : (w255).cell? ⟨w.heap.size, 1, none⟩ = some (.slice Af nf cf) := F263.out.cell 1
    have ck53_0 : (w255).cell? ⟨w30.heap.size, 0, none⟩ = some (.int .i64 x9.Start) := F264.out.cell 0
    have ck53_1 : (w255).cell? ⟨w30.heap.size, 1, none⟩ = some (.slice A31 n32 c33) := F264.out.cell 1
    have ck115_0 : (w255).cell? ⟨w80.heap.size, 0, none⟩ = some (.int .i64 x9.Start) := F265.out.cell 0
    have ck115_1 : (w255).cell? ⟨w80.heap.size, 1, none⟩ = some (.slice A81 n82 c83) := F265.out.cell 1
    go_wp2_with fail
    clear ck8_0 ck8_1 ck53_0 ck53_1 ck115_0 ck115_1
    (with_reducible refine (ux.toReorderBuffer F258.out S17.out).mono ?_)
    rintro e w266 hp
    obtain ⟨v271, fp270, rfl, ho, hb⟩ := hp.parts
    clear hp
    obtain ⟨A267, n268, c269, f9, rfl, _, _, _⟩ := ux.rob_o ho
    have F272 := Lib.hid ho
    clear ho
    have B273 := Lib.hid (B256.out.trans (hb.mono B256.out.size))
    have Z274 := Lib.hid hb.size
    have F275 := Lib.hid (F258.out.below hb)
    have F276 := Lib.hid (F259.out.below hb)
    have F277 := Lib.hid (F260.out.below hb)
    have F278 := Lib.hid (F261.out.below hb)
    have F279 := Lib.hid (F262.out.below hb)
    have F280 := Lib.hid (F263.out.below hb)
    have F281 := Lib.hid (F264.out.below hb)
    have F282 := Lib.hid (F265.out.below hb)
    clear hb B256 F258 F259 F260 F261 F262 F263 F264 F265
    have ck8_0 : (w266).cell? ⟨w.heap.size, 0, none⟩ = some (.int .i64 f.Start) := F280.out.cell 0
    have ck8_1 : (w266).cell? ⟨w.heap.size, 1, none⟩ = some (.slice Af nf cf) := F280.out.cell 1
    have ck53_0 : (w266).cell? ⟨w30.heap.size, 0, none⟩ = some (.int .i64 x9.Start) := F281.out.cell 0
    have ck53_1 : (w266).cell? ⟨w30.heap.size, 1, none⟩ = some (.slice A31 n32 c33) := F281.out.cell 1
    have ck115_0 : (w266).cell? ⟨w80.heap.size, 0, none⟩ = some (.int .i64 x9.Start) := F282.out.cell 0
    have ck115_1 : (w266).cell? ⟨w80.heap.size, 1, none⟩ = some (.slice A81 n82 c83) := F282.out.cell 1
    go_wp2_with fail
    clear ck8_0 ck8_1 ck53_0 ck53_1 ck115_0 ck115_1
    (with_reducible refine (HX.out ▸ ro.implMv f.Start f.Pending _ _ A267 n268 c269 m _ (ro.rob_rd F272.out.rd) (ro.rob_small (f := f) S18.out (ro.rob_rd F272.out.rd)) (ro.rob_bodies S18.out)).mono ?_)
    rintro e w283 hp
    obtain ⟨A284, n285, c286, fp290, A287, n288, c289, fp291, rfl, ho, hw, hap, hb⟩ := ro.r2_parts hp
    clear hp
    have HAP292 := Lib.hid hap
    have ho2 := ro.rob_oo (f := x9) ho
    clear ho hap
    have F293 := Lib.hid ho2
    clear ho2
    have F294 := Lib.hid hw
    clear hw
    have B295 := Lib.hid (B273.out.trans (hb.mono B273.out.size))
    have Z296 := Lib.hid hb.size
    have F297 := Lib.hid (F275.out.below hb)
    have F298 := Lib.hid (F276.out.below hb)
    have F299 := Lib.hid (F277.out.below hb)
    have F300 := Lib.hid (F278.out.below hb)
    have F301 := Lib.hid (F279.out.below hb)
    have F302 := Lib.hid (F272.out.below hb)
    have F303 := Lib.hid (F280.out.below hb)
    have F304 := Lib.hid (F281.out.below hb)
    have F305 := Lib.hid (F282.out.below hb)
    clear hb B273 F275 F276 F277 F278 F279 F272 F280 F281 F282
    clear F302
    obtain ⟨V306, hV306⟩ : ∃ x, x = w283.alloc (.cells #[.int .i64 x9.Start, .slice A284 n285 c286] 31) := ⟨_, rfl⟩
    have hb : Below w283.heap.size w283 V306 := by rw [hV306]; exact bx.below_box _ _
    have hz9 : w283.heap.size + 1 ≤ V306.heap.size := by rw [hV306]; simp
    have Z307 := Lib.hid hz9
    clear hz9
    have B308 := Lib.hid (B295.out.trans (hb.mono B295.out.size))
    have Z309 := Lib.hid hb.size
    have F310 := Lib.hid (F297.out.below hb)
    have F311 := Lib.hid (F298.out.below hb)
    have F312 := Lib.hid (F299.out.below hb)
    have F313 := Lib.hid (F300.out.below hb)
    have F314 := Lib.hid (F301.out.below hb)
    have F315 := Lib.hid (F293.out.below hb)
    have F316 := Lib.hid (F294.out.below hb)
    have F317 := Lib.hid (F303.out.below hb)
    have F318 := Lib.hid (F304.out.below hb)
    have F319 := Lib.hid (F305.out.below hb)
    clear hb B295 F297 F298 F299 F300 F301 F293 F294 F303 F304 F305
    have X320 := Lib.hid (show bx.Bx 31 V306 w283.heap.size #[.int .i64 x9.Start, .slice A284 n285 c286] by rw [hV306]; exact bx.Bx.made _ _ _)
    have ck8_0 : (w283.alloc (.cells #[.int .i64 x9.Start, .slice A284 n285 c286] 31)).cell? ⟨w.heap.size, 0, none⟩ = some (.int .i64 f.Start) := by rw [← hV306]; exact F317.out.cell 0
    have ck8_1 : (w283.alloc (.cells #[.int .i64 x9.Start, .slice A284 n285 c286] 31)).cell? ⟨w.heap.size, 1, none⟩ = some (.slice Af nf cf) := by rw [← hV306]; exact F317.out.cell 1
    have ck53_0 : (w283.alloc (.cells #[.int .i64 x9.Start, .slice A284 n285 c286] 31)).cell? ⟨w30.heap.size, 0, none⟩ = some (.int .i64 x9.Start) := by rw [← hV306]; exact F318.out.cell 0
    have ck53_1 : (w283.alloc (.cells #[.int .i64 x9.Start, .slice A284 n285 c286] 31)).cell? ⟨w30.heap.size, 1, none⟩ = some (.slice A31 n32 c33) := by rw [← hV306]; exact F318.out.cell 1
    have ck115_0 : (w283.alloc (.cells #[.int .i64 x9.Start, .slice A284 n285 c286] 31)).cell? ⟨w80.heap.size, 0, none⟩ = some (.int .i64 x9.Start) := by rw [← hV306]; exact F319.out.cell 0
    have ck115_1 : (w283.alloc (.cells #[.int .i64 x9.Start, .slice A284 n285 c286] 31)).cell? ⟨w80.heap.size, 1, none⟩ = some (.slice A81 n82 c83) := by rw [← hV306]; exact F319.out.cell 1
    have ck321_0 : (w283.alloc (.cells #[.int .i64 x9.Start, .slice A284 n285 c286] 31)).cell? ⟨w283.heap.size, 0, none⟩ = some (.int .i64 x9.Start) := by rw [← hV306]; exact X320.out.cell 0
    have ck321_1 : (w283.alloc (.cells #[.int .i64 x9.Start, .slice A284 n285 c286] 31)).cell? ⟨w283.heap.size, 1, none⟩ = some (.slice A284 n285 c286) := by rw [← hV306]; exact X320.out.cell 1
    go_wp2_with fail
    rw [← hV306]
    clear hV306 ck8_0 ck8_1 ck53_0 ck53_1 ck115_0 ck115_1 ck321_0 ck321_1
    (with_reducible refine (ux.eqReorderBuffer F315.out.rd F311.out).mono ?_)
    rintro e w322 hp
    obtain ⟨rfl, hb⟩ := bx.b_parts rfl hp
    clear hp
    have B323 := Lib.hid (B308.out.trans (hb.mono B308.out.size))
    have Z324 := Lib.hid hb.size
    have F325 := Lib.hid (F310.out.below hb)
    have F326 := Lib.hid (F311.out.below hb)
    have F327 := Lib.hid (F312.out.below hb)
    have F328 := Lib.hid (F313.out.below hb)
    have F329 := Lib.hid (F314.out.below hb)
    have F330 := Lib.hid (F315.out.below hb)
    have F331 := Lib.hid (F316.out.below hb)
    have F332 := Lib.hid (F317.out.below hb)
    have F333 := Lib.hid (F318.out.below hb)
    have F334 := Lib.hid (F319.out.below hb)
    have F335 := Lib.hid (X320.out.below hb)
    clear hb B308 F310 F311 F312 F313 F314 F315 F316 F317 F318 F319 X320
    have ck8_0 : (w322).cell? ⟨w.heap.size, 0, none⟩ = some (.int .i64 f.Start) := F332.out.cell 0
    have ck8_1 : (w322).cell? ⟨w.heap.size, 1, none⟩ = some (.slice Af nf cf) := F332.out.cell 1
    have ck53_0 : (w322).cell? ⟨w30.heap.size, 0, none⟩ = some (.int .i64 x9.Start) := F333.out.cell 0
    have ck53_1 : (w322).cell? ⟨w30.heap.size, 1, none⟩ = some (.slice A31 n32 c33) := F333.out.cell 1
    have ck115_0 : (w322).cell? ⟨w80.heap.size, 0, none⟩ = some (.int .i64 x9.Start) := F334.out.cell 0
    have ck115_1 : (w322).cell? ⟨w80.heap.size, 1, none⟩ = some (.slice A81 n82 c83) := F334.out.cell 1
    have ck321_0 : (w322).cell? ⟨w283.heap.size, 0, none⟩ = some (.int .i64 x9.Start) := F335.out.cell 0
    have ck321_1 : (w322).cell? ⟨w283.heap.size, 1, none⟩ = some (.slice A284 n285 c286) := F335.out.cell 1
    go_wp2_with fail
    clear ck8_0 ck8_1 ck53_0 ck53_1 ck115_0 ck115_1 ck321_0 ck321_1
    (with_reducible refine (ux.eqByteSS F331.out.rd F327.out).mono ?_)
    rintro e w336 hp
    obtain ⟨rfl, hb⟩ := bx.b_parts rfl hp
    clear hp
    have B337 := Lib.hid (B323.out.trans (hb.mono B323.out.size))
    have Z338 := Lib.hid hb.size
    have F339 := Lib.hid (F325.out.below hb)
    have F340 := Lib.hid (F326.out.below hb)
    have F341 := Lib.hid (F327.out.below hb)
    have F342 := Lib.hid (F328.out.below hb)
    have F343 := Lib.hid (F329.out.below hb)
    have F344 := Lib.hid (F330.out.below hb)
    have F345 := Lib.hid (F331.out.below hb)
    have F346 := Lib.hid (F332.out.below hb)
    have F347 := Lib.hid (F333.out.below hb)
    have F348 := Lib.hid (F334.out.below hb)
    have F349 := Lib.hid (F335.out.below hb)
    clear hb B323 F325 F326 F327 F328 F329 F330 F331 F332 F333 F334 F335
    clear F349
    clear F347
    clear F344
    clear F345
    clear F340
    clear F341
    have ck8_0 : (w336).cell? ⟨w.heap.size, 0, none⟩ = some (.int .i64 f.Start) := F346.out.cell 0
    have ck8_1 : (w336).cell? ⟨w.heap.size, 1, none⟩ = some (.slice Af nf cf) := F346.out.cell 1
    have ck115_0 : (w336).cell? ⟨w80.heap.size, 0, none⟩ = some (.int .i64 x9.Start) := F348.out.cell 0
    have ck115_1 : (w336).cell? ⟨w80.heap.size, 1, none⟩ = some (.slice A81 n82 c83) := F348.out.cell 1
    go_wp2_with fail
    clear ck8_0 ck8_1 ck115_0 ck115_1
    (with_reducible refine (ux.heldReorderBuffer 1 F342.out.rd (by have h1 := ro.rob_bd x9; have h2 := (show (0:Int) ≤ 1 ∧ (1:Int) ≤ 4294967360 by omega); have h3 := SXA.out; omega) SXA.out).mono ?_)
    rintro e w350 hp
    obtain ⟨rfl, hb⟩ := bx.n_parts Hm1.out hp
    clear hp
    have B351 := Lib.hid (B337.out.trans (hb.mono B337.out.size))
    have Z352 := Lib.hid hb.size
    have F353 := Lib.hid (F339.out.below hb)
    have F354 := Lib.hid (F342.out.below hb)
    have F355 := Lib.hid (F343.out.below hb)
    have F356 := Lib.hid (F346.out.below hb)
    have F357 := Lib.hid (F348.out.below hb)
    clear hb B337 F339 F342 F343 F346 F348
    have ck8_0 : (w350).cell? ⟨w.heap.size, 0, none⟩ = some (.int .i64 f.Start) := F356.out.cell 0
    have ck8_1 : (w350).cell? ⟨w.heap.size, 1, none⟩ = some (.slice Af nf cf) := F356.out.cell 1
    have ck115_0 : (w350).cell? ⟨w80.heap.size, 0, none⟩ = some (.int .i64 x9.Start) := F357.out.cell 0
    have ck115_1 : (w350).cell? ⟨w80.heap.size, 1, none⟩ = some (.slice A81 n82 c83) := F357.out.cell 1
    go_wp2_with fail
    clear ck8_0 ck8_1 ck115_0 ck115_1
    (with_reducible refine (ux.heldByteSS m1 F355.out.rd (by have h1 := ro.rowB_bd l9; have h2 := Km1.out; have h3 := SXB.out; omega) SXB.out).mono ?_)
    rintro e w358 hp
    obtain ⟨rfl, hb⟩ := bx.n_parts Hm2.out hp
    clear hp
    have B359 := Lib.hid (B351.out.trans (hb.mono B351.out.size))
    have Z360 := Lib.hid hb.size
    have F361 := Lib.hid (F353.out.below hb)
    have F362 := Lib.hid (F354.out.below hb)
    have F363 := Lib.hid (F355.out.below hb)
    have F364 := Lib.hid (F356.out.below hb)
    have F365 := Lib.hid (F357.out.below hb)
    clear hb B351 F353 F354 F355 F356 F357
    have ck8_0 : (w358).cell? ⟨w.heap.size, 0, none⟩ = some (.int .i64 f.Start) := F364.out.cell 0
    have ck8_1 : (w358).cell? ⟨w.heap.size, 1, none⟩ = some (.slice Af nf cf) := F364.out.cell 1
    have ck115_0 : (w358).cell? ⟨w80.heap.size, 0, none⟩ = some (.int .i64 x9.Start) := F365.out.cell 0
    have ck115_1 : (w358).cell? ⟨w80.heap.size, 1, none⟩ = some (.slice A81 n82 c83) := F365.out.cell 1
    go_wp2_with fail
    clear ck8_0 ck8_1 ck115_0 ck115_1
    go_ret
    exact ⟨rfl, B359.out⟩
theorem walkA (f0 : Int) (Af : Option Addr) (nf cf : Nat) (zf : List ux.Nf) (m : Int) (w : World) (hf : opm.Nfq w 0 w.heap.size Af nf cf zf)  :
    Calls Try.prog 8 #[.agg #[.int .i64 f0, .slice Af nf cf], .int .i64 m] w fun e w' => e = .returned (.bool true) ∧ Below w.heap.size w w' :=
  walk ⟨f0, zf⟩ Af nf cf m w hf
end Go.Proofs.Ytmmhleobgpgliaa.xExactMoveStart
