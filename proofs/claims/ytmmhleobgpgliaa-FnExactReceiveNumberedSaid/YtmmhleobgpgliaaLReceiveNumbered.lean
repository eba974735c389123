/- The walk of FnExactReceiveNumbered. Condition: none. -/
import Derived.Test.YtmmhleobgpgliaaRhc
import Derived.Test.YtmmhleobgpgliaaRg5
import Derived.Test.YtmmhleobgpgliaaOpf
namespace Go.Proofs.Ytmmhleobgpgliaa.xExactReceiveNumbered
open Go.RowKit sl harn bx
set_option linter.unusedVariables false
set_option maxRecDepth 100000 in
set_option maxHeartbeats 4000000 in
theorem walk (f : ux.Rob) (Af : Option Addr) (nf cf : Nat) (m : Int) (Ab : Option Addr) (nb cb : Nat) (zb : List Int) (w : World) (hf : ux.RR ux.rowNf w 0 w.heap.size (.slice Af nf cf) f.Pending) (hb : sl.Rd .u8 w 0 w.heap.size Ab nb cb zb)  :
    Calls Try.prog 7 #[ux.robV f (.slice Af nf cf), .int .i64 m, .slice Ab nb cb] w fun e w' => e = .returned (.bool true) ∧ Below w.heap.size w w' := by
  have B1 := Lib.hid (Below.refl w.heap.size w)
  have F2 := Lib.hid (ro.rob_of (f := f) hf)
  have F3 := Lib.hid ((show ux.RR ux.bytes w 0 w.heap.size (.slice Ab nb cb) zb from ux.num_rd hb))
  have HLB := Lib.hid hb.len
  clear hf hb
  go_enter Try.func7, Try.ntmps7
  go_upto_region 1 with fail
  obtain ⟨we, hW⟩ : ∃ w0, w.alloc (.cells #[.int .i64 f.Start, .slice Af nf cf] 55) = w0 := ⟨_, rfl⟩
  rw [hW]
  have hb : Below w.heap.size w we := by rw [← hW]; exact (Below.refl _ _).alloc (by simp <;> omega) _
  have hz9 : w.heap.size + 1 ≤ we.heap.size := by rw [← hW]; simp
  have Z4 := Lib.hid hz9
  clear hz9
  have B5 := Lib.hid (B1.out.trans (hb.mono B1.out.size))
  have Z6 := Lib.hid hb.size
  have F7 := Lib.hid (F2.out.below hb)
  have F8 := Lib.hid (F3.out.below hb)
  clear hb B1 F2 F3
  have X9 := Lib.hid (show bx.Bx 55 we (w.heap.size) #[.int .i64 f.Start, .slice Af nf cf] by
      rw [← hW]
      have hh := bx.Bx.made 55 w #[.int .i64 f.Start, .slice Af nf cf]
      exact hh)
  clear hW
  by_cases hbig : (1048576 : Int) < nb
  · go_wp2_with fail
    go_ret
    exact ⟨rfl, B5.out⟩
  · have QBB := Lib.hid (show zb.length ≤ 1048576 by have := HLB.out; omega)
    have SB := Lib.hid (show ux.bytes.sz zb ≤ 67108864 by show zb.length ≤ _; have := QBB.out; omega)
    have ck10_0 : (we).cell? ⟨w.heap.size, 0, none⟩ = some (.int .i64 f.Start) := X9.out.cell 0
    have ck10_1 : (we).cell? ⟨w.heap.size, 1, none⟩ = some (.slice Af nf cf) := X9.out.cell 1
    go_wp2_with fail
    clear ck10_0 ck10_1
    (with_reducible refine (ux.szReorderBuffer (1048576) (by omega) F7.out).mono ?_)
    rintro e w11 hp
    obtain ⟨r12, rfl, H13, hb⟩ := hp.parts
    have B14 := Lib.hid (B5.out.trans (hb.mono B5.out.size))
    have Z15 := Lib.hid hb.size
    have F16 := Lib.hid (F7.out.below hb)
    have F17 := Lib.hid (F8.out.below hb)
    have F18 := Lib.hid (X9.out.below hb)
    clear hb B5 F7 F8 X9
    rcases H13 with ⟨hr, _⟩ | ⟨hr, ht⟩
    · subst hr
      go_wp2_with fail
      go_ret
      exact ⟨rfl, B14.out⟩
    · have Q19 := Lib.hid (show 0 ≤ r12 ∧ r12 ≤ 1048576 by have := (by omega); omega)
      have S20 := Lib.hid (show ux.rob.sz f ≤ 67108864 by have := (by omega); omega)
      have S21 := Lib.hid (show ux.rob.sz f ≤ 1048576 by have := (by omega); omega)
      have ngr12 : ¬ r12 < 0 := by have := Q19.out; omega
      clear hr ht
      obtain ⟨⟨x9, l9⟩, hx9⟩ : ∃ p, ro.recv ⟨f.Start, f.Pending⟩ m zb = p := ⟨_, rfl⟩
      have HX := Lib.hid hx9
      have SX := Lib.hid (show ux.rob.sz x9 ≤ 67108864 ∧ ux.rowB.sz l9 ≤ 67108864 by have h1 := ro.recv_sz (n := m) (b := zb) (r := ⟨f.Start, f.Pending⟩) S21.out; rw [hx9] at h1; exact h1)
      clear hx9
      have SXA := Lib.hid SX.out.1
      have SXB := Lib.hid SX.out.2
      have ck10_0 : (w11).cell? ⟨w.heap.size, 0, none⟩ = some (.int .i64 f.Start) := F18.out.cell 0
      have ck10_1 : (w11).cell? ⟨w.heap.size, 1, none⟩ = some (.slice Af nf cf) := F18.out.cell 1
      go_wp2_with fail
      clear ck10_0 ck10_1
      (with_reducible refine (ux.toReorderBuffer F16.out S20.out).mono ?_)
      rintro e w22 hp
      obtain ⟨v27, fp26, rfl, ho, hb⟩ := hp.parts
      clear hp
      obtain ⟨A23, n24, c25, f9, rfl, _, _, _⟩ := ux.rob_o ho
      have F28 := Lib.hid ho
      clear ho
      have B29 := Lib.hid (B14.out.trans (hb.mono B14.out.size))
      have Z30 := Lib.hid hb.size
      have F31 := Lib.hid (F16.out.below hb)
      have F32 := Lib.hid (F17.out.below hb)
      have F33 := Lib.hid (F18.out.below hb)
      clear hb B14 F16 F17 F18
      have ck10_0 : (w22).cell? ⟨w.heap.size, 0, none⟩ = some (.int .i64 f.Start) := F33.out.cell 0
      have ck10_1 : (w22).cell? ⟨w.heap.size, 1, none⟩ = some (.slice Af nf cf) := F33.out.cell 1
      go_wp2_with fail
      clear ck10_0 ck10_1
      (with_reducible refine (ux.toByteS F32.out SB.out).mono ?_)
      rintro e w34 hp
      obtain ⟨v39, fp38, rfl, ho, hb⟩ := hp.parts
      clear hp
      obtain ⟨A35, n36, c37, rfl⟩ := ux.bytes_slo ho.1
      have F40 := Lib.hid ho
      clear ho
      have B41 := Lib.hid (B29.out.trans (hb.mono B29.out.size))
      have Z42 := Lib.hid hb.size
      have F43 := Lib.hid (F31.out.below hb)
      have F44 := Lib.hid (F32.out.below hb)
      have F45 := Lib.hid (F28.out.below hb)
      have F46 := Lib.hid (F33.out.below hb)
      clear hb B29 F31 F32 F28 F33
      have ck10_0 : (w34).cell? ⟨w.heap.size, 0, none⟩ = some (.int .i64 f.Start) := F46.out.cell 0
      have ck10_1 : (w34).cell? ⟨w.heap.size, 1, none⟩ = some (.slice Af nf cf) := F46.out.cell 1
      go_wp2_with fail
      clear ck10_0 ck10_1
      (with_reducible refine (HX.out ▸ ro.specRc f.Start f.Pending _ _ A23 n24 c25 m zb _ _ A35 n36 c37 _ (ro.rob_rd F45.out.rd) (ro.rob_small (f := f) S21.out (ro.rob_rd F45.out.rd)) (ro.rob_bodies S21.out) (F40.out.rd)).mono ?_)
      rintro e w47 hp
      obtain ⟨A48, n49, c50, A51, n52, c53, rfl, ho, hw, hb⟩ := ro.rr2_parts hp
      clear hp
      have F54 := Lib.hid (ro.rob_of (f := x9) ho)
      have F55 := Lib.hid hw
      clear ho hw
      have B56 := Lib.hid (B41.out.trans (hb.mono B41.out.size))
      have Z57 := Lib.hid hb.size
      have F58 := Lib.hid (F43.out.below hb)
      have F59 := Lib.hid (F44.out.below hb)
      have F60 := Lib.hid (F45.out.below hb)
      have F61 := Lib.hid (F40.out.below hb)
      have F62 := Lib.hid (F46.out.below hb)
      clear hb B41 F43 F44 F45 F40 F46
      clear F60
      clear F61
      obtain ⟨V63, hV63⟩ : ∃ x, x = w47.alloc (.cells #[.int .i64 x9.Start, .slice A48 n49 c50] 31) := ⟨_, rfl⟩
      have hb : Below w47.heap.size w47 V63 := by rw [hV63]; exact bx.below_box _ _
      have hz9 : w47.heap.size + 1 ≤ V63.heap.size := by rw [hV63]; simp
      have Z64 := Lib.hid hz9
      clear hz9
      have B65 := Lib.hid (B56.out.trans (hb.mono B56.out.size))
      have Z66 := Lib.hid hb.size
      have F67 := Lib.hid (F58.out.below hb)
      have F68 := Lib.hid (F59.out.below hb)
      have F69 := Lib.hid (F54.out.below hb)
      have F70 := Lib.hid (F55.out.below hb)
      have F71 := Lib.hid (F62.out.below hb)
      clear hb B56 F58 F59 F54 F55 F62
      have X72 := Lib.hid (show bx.Bx 31 V63 w47.heap.size #[.int .i64 x9.Start, .slice A48 n49 c50] by rw [hV63]; exact bx.Bx.made _ _ _)
      have ck10_0 : (w47.alloc (.cells #[.int .i64 x9.Start, .slice A48 n49 c50] 31)).cell? ⟨w.heap.size, 0, none⟩ = some (.int .i64 f.Start) := by rw [← hV63]; exact F71.out.cell 0
      have ck10_1 : (w47.alloc (.cells #[.int .i64 x9.Start, .slice A48 n49 c50] 31)).cell? ⟨w.heap.size, 1, none⟩ = some (.slice Af nf cf) := by rw [← hV63]; exact F71.out.cell 1
      have ck73_0 : (w47.alloc (.cells #[.int .i64 x9.Start, .slice A48 n49 c50] 31)).cell? ⟨w47.heap.size, 0, none⟩ = some (.int .i64 x9.Start) := by rw [← hV63]; exact X72.out.cell 0
      have ck73_1 : (w47.alloc (.cells #[.int .i64 x9.Start, .slice A48 n49 c50] 31)).cell? ⟨w47.heap.size, 1, none⟩ = some (.slice A48 n49 c50) := by rw [← hV63]; exact X72.out.cell 1
      go_wp2_with fail
      rw [← hV63]
      clear hV63 ck10_0 ck10_1 ck73_0 ck73_1
      (with_reducible refine (ux.toReorderBuffer F67.out S20.out).mono ?_)
      rintro e w74 hp
      obtain ⟨v79, fp78, rfl, ho, hb⟩ := hp.parts
      clear hp
      obtain ⟨A75, n76, c77, f9, rfl, _, _, _⟩ := ux.rob_o ho
      have F80 := Lib.hid ho
      clear ho
      have B81 := Lib.hid (B65.out.trans (hb.mono B65.out.size))
      have Z82 := Lib.hid hb.size
      have F83 := Lib.hid (F67.out.below hb)
      have F84 := Lib.hid (F68.out.below hb)
      have F85 := Lib.hid (F69.out.below hb)
      have F86 := Lib.hid (F70.out.below hb)
      have F87 := Lib.hid (F71.out.below hb)
      have F88 := Lib.hid (X72.out.below hb)
      clear hb B65 F67 F68 F69 F70 F71 X72
      obtain ⟨V89, hV89⟩ : ∃ x, x = w74.alloc (.cells #[.int .i64 f.Start, .slice A75 n76 c77] 31) := ⟨_, rfl⟩
      have hb : Below w74.heap.size w74 V89 := by rw [hV89]; exact bx.below_box _ _
      have hz9 : w74.heap.size + 1 ≤ V89.heap.size := by rw [hV89]; simp
      have Z90 := Lib.hid hz9
      clear hz9
      have B91 := Lib.hid (B81.out.trans (hb.mono B81.out.size))
      have Z92 := Lib.hid hb.size
      have F93 := Lib.hid (F83.out.below hb)
      have F94 := Lib.hid (F84.out.below hb)
      have F95 := Lib.hid (F85.out.below hb)
      have F96 := Lib.hid (F86.out.below hb)
      have F97 := Lib.hid (F80.out.below hb)
      have F98 := Lib.hid (F87.out.below hb)
      have F99 := Lib.hid (F88.out.below hb)
      clear hb B81 F83 F84 F85 F86 F80 F87 F88
      have X100 := Lib.hid (show bx.Bx 31 V89 w74.heap.size #[.int .i64 f.Start, .slice A75 n76 c77] by rw [hV89]; exact bx.Bx.made _ _ _)
      have ck10_0 : (w74.alloc (.cells #[.int .i64 f.Start, .slice A75 n76 c77] 31)).cell? ⟨w.heap.size, 0, none⟩ = some (.int .i64 f.Start) := by rw [← hV89]; exact F98.out.cell 0
      have ck10_1 : (w74.alloc (.cells #[.int .i64 f.Start, .slice A75 n76 c77] 31)).cell? ⟨w.heap.size, 1, none⟩ = some (.slice Af nf cf) := by rw [← hV89]; exact F98.out.cell 1
      have ck73_0 : (w74.alloc (.cells #[.int .i64 f.Start, .slice A75 n76 c77] 31)).cell? ⟨w47.heap.size, 0, none⟩ = some (.int .i64 x9.Start) := by rw [← hV89]; exact F99.out.cell 0
      have ck73_1 : (w74.alloc (.cells #[.int .i64 f.Start, .slice A75 n76 c77] 31)).cell? ⟨w47.heap.size, 1, none⟩ = some (.slice A48 n49 c50) := by rw [← hV89]; exact F99.out.cell 1
      have ck101_0 : (w74.alloc (.cells #[.int .i64 f.Start, .slice A75 n76 c77] 31)).cell? ⟨w74.heap.size, 0, none⟩ = some (.int .i64 f.Start) := by rw [← hV89]; exact X100.out.cell 0
      have ck101_1 : (w74.alloc (.cells #[.int .i64 f.Start, .slice A75 n76 c77] 31)).cell? ⟨w74.heap.size, 1, none⟩ = some (.slice A75 n76 c77) := by rw [← hV89]; exact X100.out.cell 1
      go_wp2_with fail
      rw [← hV89]
      clear hV89 ck10_0 ck10_1 ck73_0 ck73_1 ck101_0 ck101_1
      (with_reducible refine (ux.toByteS F94.out SB.out).mono ?_)
      rintro e w102 hp
      obtain ⟨v107, fp106, rfl, ho, hb⟩ := hp.parts
      clear hp
      obtain ⟨A103, n104, c105, rfl⟩ := ux.bytes_slo ho.1
      have F108 := Lib.hid ho
      clear ho
      have B109 := Lib.hid (B91.out.trans (hb.mono B91.out.size))
      have Z110 := Lib.hid hb.size
      have F111 := Lib.hid (F93.out.below hb)
      have F112 := Lib.hid (F94.out.below hb)
      have F113 := Lib.hid (F95.out.below hb)
      have F114 := Lib.hid (F96.out.below hb)
      have F115 := Lib.hid (F97.out.below hb)
      have F116 := Lib.hid (F98.out.below hb)
      have F117 := Lib.hid (F99.out.below hb)
      have F118 := Lib.hid (X100.out.below hb)
      clear hb B91 F93 F94 F95 F96 F97 F98 F99 X100
      have ck10_0 : (w102).cell? ⟨w.heap.size, 0, none⟩ = some (.int .i64 f.Start) := F116.out.cell 0
      have ck10_1 : (w102).cell? ⟨w.heap.size, 1, none⟩ = some (.slice Af nf cf) := F116.out.cell 1
      have ck73_0 : (w102).cell? ⟨w47.heap.size, 0, none⟩ = some (.int .i64 x9.Start) := F117.out.cell 0
      have ck73_1 : (w102).cell? ⟨w47.heap.size, 1, none⟩ = some (.slice A48 n49 c50) := F117.out.cell 1
      have ck101_0 : (w102).cell? ⟨w74.heap.size, 0, none⟩ = some (.int .i64 f.Start) := F118.out.cell 0
      have ck101_1 : (w102).cell? ⟨w74.heap.size, 1, none⟩ = some (.slice A75 n76 c77) := F118.out.cell 1
      go_wp2_with fail
      clear ck10_0 ck10_1 ck73_0 ck73_1 ck101_0 ck101_1
      (with_reducible refine (HX.out ▸ ro.implRc f.Start f.Pending _ _ A75 n76 c77 m zb _ _ A103 n104 c105 _ (ro.rob_rd F115.out.rd) (ro.rob_small (f := f) S21.out (ro.rob_rd F115.out.rd)) (ro.rob_bodies S21.out) (F108.out.rd)).mono ?_)
      rintro e w119 hp
      obtain ⟨A120, n121, c122, fp126, A123, n124, c125, fp127, rfl, ho, hw, hap, hb⟩ := ro.r2_parts hp
      clear hp
      have HAP128 := Lib.hid hap
      have ho2 := ro.rob_oo (f := x9) ho
      clear ho hap
      have F129 := Lib.hid ho2
      clear ho2
      have F130 := Lib.hid hw
      clear hw
      have B131 := Lib.hid (B109.out.trans (hb.mono B109.out.size))
      have Z132 := Lib.hid hb.size
      have F133 := Lib.hid (F111.out.below hb)
      have F134 := Lib.hid (F112.out.below hb)
      have F135 := Lib.hid (F113.out.below hb)
      have F136 := Lib.hid (F114.out.below hb)
      have F137 := Lib.hid (F115.out.below hb)
      have F138 := Lib.hid (F108.out.below hb)
      have F139 := Lib.hid (F116.out.below hb)
      have F140 := Lib.hid (F117.out.below hb)
      have F141 := Lib.hid (F118.out.below hb)
      clear hb B109 F111 F112 F113 F114 F115 F108 F116 F117 F118
      obtain ⟨V142, hV142⟩ : ∃ x, x = w119.alloc (.cells #[.int .i64 x9.Start, .slice A120 n121 c122] 31) := ⟨_, rfl⟩
      have hb : Below w119.heap.size w119 V142 := by rw [hV142]; exact bx.below_box _ _
      have hz9 : w119.heap.size + 1 ≤ V142.heap.size := by rw [hV142]; simp
      have Z143 := Lib.hid hz9
      clear hz9
      have B144 := Lib.hid (B131.out.trans (hb.mono B131.out.size))
      have Z145 := Lib.hid hb.size
      have F146 := Lib.hid (F133.out.below hb)
      have F147 := Lib.hid (F134.out.below hb)
      have F148 := Lib.hid (F135.out.below hb)
      have F149 := Lib.hid (F136.out.below hb)
      have F150 := Lib.hid (F137.out.below hb)
      have F151 := Lib.hid (F138.out.below hb)
      have F152 := Lib.hid (F129.out.below hb)
      have F153 := Lib.hid (F130.out.below hb)
      have F154 := Lib.hid (F139.out.below hb)
      have F155 := Lib.hid (F140.out.below hb)
      have F156 := Lib.hid (F141.out.below hb)
      clear hb B131 F133 F134 F135 F136 F137 F138 F129 F130 F139 F140 F141
      have X157 := Lib.hid (show bx.Bx 31 V142 w119.heap.size #[.int .i64 x9.Start, .slice A120 n121 c122] by rw [hV142]; exact bx.Bx.made _ _ _)
      have ck10_0 : (w119.alloc (.cells #[.int .i64 x9.Start, .slice A120 n121 c122] 31)).cell? ⟨w.heap.size, 0, none⟩ = some (.int .i64 f.Start) := by rw [← hV142]; exact F154.out.cell 0
      have ck10_1 : (w119.alloc (.cells #[.int .i64 x9.Start, .slice A120 n121 c122] 31)).cell? ⟨w.heap.size, 1, none⟩ = some (.slice Af nf cf) := by rw [← hV142]; exact F154.out.cell 1
      have ck73_0 : (w119.alloc (.cells #[.int .i64 x9.Start, .slice A120 n121 c122] 31)).cell? ⟨w47.heap.size, 0, none⟩ = some (.int .i64 x9.Start) := by rw [← hV142]; exact F155.out.cell 0
      have ck73_1 : (w119.alloc (.cells #[.int .i64 x9.Start, .slice A120 n121 c122] 31)).cell? ⟨w47.heap.size, 1, none⟩ = some (.slice A48 n49 c50) := by rw [← hV142]; exact F155.out.cell 1
      have ck101_0 : (w119.alloc (.cells #[.int .i64 x9.Start, .slice A120 n121 c122] 31)).cell? ⟨w74.heap.size, 0, none⟩ = some (.int .i64 f.Start) := by rw [← hV142]; exact F156.out.cell 0
      have ck101_1 : (w119.alloc (.cells #[.int .i64 x9.Start, .slice A120 n121 c122] 31)).cell? ⟨w74.heap.size, 1, none⟩ = some (.slice A75 n76 c77) := by rw [← hV142]; exact F156.out.cell 1
      have ck158_0 : (w119.alloc (.cells #[.int .i64 x9.Start, .slice A120 n121 c122] 31)).cell? ⟨w119.heap.size, 0, none⟩ = some (.int .i64 x9.Start) := by rw [← hV142]; exact X157.out.cell 0
      have ck158_1 : (w119.alloc (.cells #[.int .i64 x9.Start, .slice A120 n121 c122] 31)).cell? ⟨w119.heap.size, 1, none⟩ = some (.slice A120 n121 c122) := by rw [← hV142]; exact X157.out.cell 1
      go_wp2_with fail
      rw [← hV142]
      clear hV142 ck10_0 ck10_1 ck73_0 ck73_1 ck101_0 ck101_1 ck158_0 ck158_1
      (with_reducible refine (ux.eqReorderBuffer F152.out.rd F148.out).mono ?_)
      rintro e w159 hp
      obtain ⟨rfl, hb⟩ := bx.b_parts rfl hp
      clear hp
      have B160 := Lib.hid (B144.out.trans (hb.mono B144.out.size))
      have Z161 := Lib.hid hb.size
      have F162 := Lib.hid (F146.out.below hb)
      have F163 := Lib.hid (F147.out.below hb)
      have F164 := Lib.hid (F148.out.below hb)
      have F165 := Lib.hid (F149.out.below hb)
      have F166 := Lib.hid (F150.out.below hb)
      have F167 := Lib.hid (F151.out.below hb)
      have F168 := Lib.hid (F152.out.below hb)
      have F169 := Lib.hid (F153.out.below hb)
      have F170 := Lib.hid (F154.out.below hb)
      have F171 := Lib.hid (F155.out.below hb)
      have F172 := Lib.hid (F156.out.below hb)
      have F173 := Lib.hid (X157.out.below hb)
      clear hb B144 F146 F147 F148 F149 F150 F151 F152 F153 F154 F155 F156 X157
      have ck10_0 : (w159).cell? ⟨w.heap.size, 0, none⟩ = some (.int .i64 f.Start) := F170.out.cell 0
      have ck10_1 : (w159).cell? ⟨w.heap.size, 1, none⟩ = some (.slice Af nf cf) := F170.out.cell 1
      have ck73_0 : (w159).cell? ⟨w47.heap.size, 0, none⟩ = some (.int .i64 x9.Start) := F171.out.cell 0
      have ck73_1 : (w159).cell? ⟨w47.heap.size, 1, none⟩ = some (.slice A48 n49 c50) := F171.out.cell 1
      have ck101_0 : (w159).cell? ⟨w74.heap.size, 0, none⟩ = some (.int .i64 f.Start) := F172.out.cell 0
      have ck101_1 : (w159).cell? ⟨w74.heap.size, 1, none⟩ = some (.slice A75 n76 c77) := F172.out.cell 1
      have ck158_0 : (w159).cell? ⟨w119.heap.size, 0, none⟩ = some (.int .i64 x9.Start) := F173.out.cell 0
      have ck158_1 : (w159).cell? ⟨w119.heap.size, 1, none⟩ = some (.slice A120 n121 c122) := F173.out.cell 1
      go_wp2_with fail
      clear ck10_0 ck10_1 ck73_0 ck73_1 ck101_0 ck101_1 ck158_0 ck158_1
      (with_reducible refine (ux.eqByteSS F169.out.rd F165.out).mono ?_)
      rintro e w174 hp
      obtain ⟨rfl, hb⟩ := bx.b_parts rfl hp
      clear hp
      have B175 := Lib.hid (B160.out.trans (hb.mono B160.out.size))
      have Z176 := Lib.hid hb.size
      have F177 := Lib.hid (F162.out.below hb)
      have F178 := Lib.hid (F163.out.below hb)
      have F179 := Lib.hid (F164.out.below hb)
      have F180 := Lib.hid (F165.out.below hb)
      have F181 := Lib.hid (F166.out.below hb)
      have F182 := Lib.hid (F167.out.below hb)
      have F183 := Lib.hid (F168.out.below hb)
      have F184 := Lib.hid (F169.out.below hb)
      have F185 := Lib.hid (F170.out.below hb)
      have F186 := Lib.hid (F171.out.below hb)
      have F187 := Lib.hid (F172.out.below hb)
      have F188 := Lib.hid (F173.out.below hb)
      clear hb B160 F162 F163 F164 F165 F166 F167 F168 F169 F170 F171 F172 F173
      have ck10_0 : (w174).cell? ⟨w.heap.size, 0, none⟩ = some (.int .i64 f.Start) := F185.out.cell 0
      have ck10_1 : (w174).cell? ⟨w.heap.size, 1, none⟩ = some (.slice Af nf cf) := F185.out.cell 1
      have ck73_0 : (w174).cell? ⟨w47.heap.size, 0, none⟩ = some (.int .i64 x9.Start) := F186.out.cell 0
      have ck73_1 : (w174).cell? ⟨w47.heap.size, 1, none⟩ = some (.slice A48 n49 c50) := F186.out.cell 1
      have ck101_0 : (w174).cell? ⟨w74.heap.size, 0, none⟩ = some (.int .i64 f.Start) := F187.out.cell 0
      have ck101_1 : (w174).cell? ⟨w74.heap.size, 1, none⟩ = some (.slice A75 n76 c77) := F187.out.cell 1
      have ck158_0 : (w174).cell? ⟨w119.heap.size, 0, none⟩ = some (.int .i64 x9.Start) := F188.out.cell 0
      have ck158_1 : (w174).cell? ⟨w119.heap.size, 1, none⟩ = some (.slice A120 n121 c122) := F188.out.cell 1
      go_wp2_with fail
      clear ck10_0 ck10_1 ck73_0 ck73_1 ck101_0 ck101_1 ck158_0 ck158_1
      have hb : Below w174.heap.size w174 w174.drew := own.below_drew (Below.refl _ _)
      have B189 := Lib.hid (B175.out.trans (hb.mono B175.out.size))
      have Z190 := Lib.hid hb.size
      have F191 := Lib.hid (F177.out.below hb)
      have F192 := Lib.hid (F178.out.below hb)
      have F193 := Lib.hid (F179.out.below hb)
      have F194 := Lib.hid (F180.out.below hb)
      have F195 := Lib.hid (F181.out.below hb)
      have F196 := Lib.hid (F182.out.below hb)
      have F197 := Lib.hid (F183.out.below hb)
      have F198 := Lib.hid (F184.out.below hb)
      have F199 := Lib.hid (F185.out.below hb)
      have F200 := Lib.hid (F186.out.below hb)
      have F201 := Lib.hid (F187.out.below hb)
      have F202 := Lib.hid (F188.out.below hb)
      clear hb B175 F177 F178 F179 F180 F181 F182 F183 F184 F185 F186 F187 F188
      have cak101_0 : (w174.drew).cell? ⟨w74.heap.size, 0, none⟩ = some (.int .i64 f.Start) := F201.out.cell 0
      have cak101_1 : (w174.drew).cell? ⟨w74.heap.size, 1, none⟩ = some (.slice A75 n76 c77) := F201.out.cell 1
      have cak10_0 : (w174.drew).cell? ⟨w.heap.size, 0, none⟩ = some (.int .i64 f.Start) := F199.out.cell 0
      have cak10_1 : (w174.drew).cell? ⟨w.heap.size, 1, none⟩ = some (.slice Af nf cf) := F199.out.cell 1
      go_region_held3 (fun w' => w'.cell? ⟨w74.heap.size, 0, none⟩ = some (.int .i64 f.Start) ∧ w'.cell? ⟨w74.heap.size, 1, none⟩ = some (.slice A75 n76 c77) ∧ w'.cell? ⟨w.heap.size, 0, none⟩ = some (.int .i64 f.Start) ∧ w'.cell? ⟨w.heap.size, 1, none⟩ = some (.slice Af nf cf)) (first | (with_reducible exact ⟨cak101_0, cak101_1, cak10_0, cak10_1⟩) | (with_reducible exact ⟨cbk101_0, cbk101_1, cbk10_0, cbk10_1⟩) | (with_reducible exact ⟨cdk101_0, cdk101_1, cdk10_0, cdk10_1⟩))
        (first
        | (go_at_call 36; refine (ux.toReorderBuffer F191.out S20.out).mono ?_; rintro e w203 hp; obtain ⟨v208, fp207, rfl, ho, hb⟩ := hp.parts; clear hp; obtain ⟨A204, n205, c206, f9, rfl, _, _, _⟩ := ux.rob_o ho; have F209 := Lib.hid ho; clear ho; have B210 := Lib.hid (B189.out.trans (hb.mono B189.out.size)); have Z211 := Lib.hid hb.size; have F212 := Lib.hid (F191.out.below hb); have F213 := Lib.hid (F192.out.below hb); have F214 := Lib.hid (F193.out.below hb); have F215 := Lib.hid (F194.out.below hb); have F216 := Lib.hid (F195.out.below hb); have F217 := Lib.hid (F196.out.below hb); have F218 := Lib.hid (F197.out.below hb); have F219 := Lib.hid (F198.out.below hb); have F220 := Lib.hid (F199.out.below hb); have F221 := Lib.hid (F200.out.below hb); have F222 := Lib.hid (F201.out.below hb); have F223 := Lib.hid (F202.out.below hb); clear hb B189 F191 F192 F193 F194 F195 F196 F197 F198 F199 F200 F201 F202; have cbk101_0 : (w203).cell? ⟨w74.heap.size, 0, none⟩ = some (.int .i64 f.Start) := F222.out.cell 0; have cbk101_1 : (w203).cell? ⟨w74.heap.size, 1, none⟩ = some (.slice A75 n76 c77) := F222.out.cell 1; have cbk10_0 : (w203).cell? ⟨w.heap.size, 0, none⟩ = some (.int .i64 f.Start) := F220.out.cell 0; have cbk10_1 : (w203).cell? ⟨w.heap.size, 1, none⟩ = some (.slice Af nf cf) := F220.out.cell 1)
        | (go_at_call 32; refine (ux.eqReorderBuffer F216.out.rd F209.out.rd).mono ?_; rintro e w224 hp; obtain ⟨rfl, hb⟩ := bx.b_parts rfl hp; clear hp; have B225 := Lib.hid (B210.out.trans (hb.mono B210.out.size)); have Z226 := Lib.hid hb.size; have F227 := Lib.hid (F212.out.below hb); have F228 := Lib.hid (F213.out.below hb); have F229 := Lib.hid (F214.out.below hb); have F230 := Lib.hid (F215.out.below hb); have F231 := Lib.hid (F216.out.below hb); have F232 := Lib.hid (F217.out.below hb); have F233 := Lib.hid (F218.out.below hb); have F234 := Lib.hid (F219.out.below hb); have F235 := Lib.hid (F209.out.below hb); have F236 := Lib.hid (F220.out.below hb); have F237 := Lib.hid (F221.out.below hb); have F238 := Lib.hid (F222.out.below hb); have F239 := Lib.hid (F223.out.below hb); clear hb B210 F212 F213 F214 F215 F216 F217 F218 F219 F209 F220 F221 F222 F223; have cdk101_0 : (w224).cell? ⟨w74.heap.size, 0, none⟩ = some (.int .i64 f.Start) := F238.out.cell 0; have cdk101_1 : (w224).cell? ⟨w74.heap.size, 1, none⟩ = some (.slice A75 n76 c77) := F238.out.cell 1; have cdk10_0 : (w224).cell? ⟨w.heap.size, 0, none⟩ = some (.int .i64 f.Start) := F236.out.cell 0; have cdk10_1 : (w224).cell? ⟨w.heap.size, 1, none⟩ = some (.slice Af nf cf) := F236.out.cell 1))
      clear cak101_0 cak101_1 cak10_0 cak10_1 cbk101_0 cbk101_1 cbk10_0 cbk10_1 cdk101_0 cdk101_1 cdk10_0 cdk10_1
      clear F235
      have ck10_0 : (w224).cell? ⟨w.heap.size, 0, none⟩ = some (.int .i64 f.Start) := F236.out.cell 0
      have ck10_1 : (w224).cell? ⟨w.heap.size, 1, none⟩ = some (.slice Af nf cf) := F236.out.cell 1
      have ck73_0 : (w224).cell? ⟨w47.heap.size, 0, none⟩ = some (.int .i64 x9.Start) := F237.out.cell 0
      have ck73_1 : (w224).cell? ⟨w47.heap.size, 1, none⟩ = some (.slice A48 n49 c50) := F237.out.cell 1
      have ck101_0 : (w224).cell? ⟨w74.heap.size, 0, none⟩ = some (.int .i64 f.Start) := F238.out.cell 0
      have ck101_1 : (w224).cell? ⟨w74.heap.size, 1, none⟩ = some (.slice A75 n76 c77) := F238.out.cell 1
      have ck158_0 : (w224).cell? ⟨w119.heap.size, 0, none⟩ = some (.int .i64 x9.Start) := F239.out.cell 0
      have ck158_1 : (w224).cell? ⟨w119.heap.size, 1, none⟩ = some (.slice A120 n121 c122) := F239.out.cell 1
      go_wp2_with fail
      clear ck10_0 ck10_1 ck73_0 ck73_1 ck101_0 ck101_1 ck158_0 ck158_1
      (with_reducible refine (ux.toByteS F228.out SB.out).mono ?_)
      rintro e w240 hp
      obtain ⟨v245, fp244, rfl, ho, hb⟩ := hp.parts
      clear hp
      obtain ⟨A241, n242, c243, rfl⟩ := ux.bytes_slo ho.1
      have F246 := Lib.hid ho
      clear ho
      have B247 := Lib.hid (B225.out.trans (hb.mono B225.out.size))
      have Z248 := Lib.hid hb.size
      have F249 := Lib.hid (F227.out.below hb)
      have F250 := Lib.hid (F228.out.below hb)
      have F251 := Lib.hid (F229.out.below hb)
      have F252 := Lib.hid (F230.out.below hb)
      have F253 := Lib.hid (F231.out.below hb)
      have F254 := Lib.hid (F232.out.below hb)
      have F255 := Lib.hid (F233.out.below hb)
      have F256 := Lib.hid (F234.out.below hb)
      have F257 := Lib.hid (F236.out.below hb)
      have F258 := Lib.hid (F237.out.below hb)
      have F259 := Lib.hid (F238.out.below hb)
      have F260 := Lib.hid (F239.out.below hb)
      clear hb B225 F227 F228 F229 F230 F231 F232 F233 F234 F236 F237 F238 F239
      have ck10_0 : (w240).cell? ⟨w.heap.size, 0, none⟩ = some (.int .i64 f.Start) := F257.out.cell 0
      have ck10_1 : (w240).cell? ⟨w.heap.size, 1, none⟩ = some (.slice Af nf cf) := F257.out.cell 1
      have ck73_0 : (w240).cell? ⟨w47.heap.size, 0, none⟩ = some (.int .i64 x9.Start) := F258.out.cell 0
      have ck73_1 : (w240).cell? ⟨w47.heap.size, 1, none⟩ = some (.slice A48 n49 c50) := F258.out.cell 1
      have ck101_0 : (w240).cell? ⟨w74.heap.size, 0, none⟩ = some (.int .i64 f.Start) := F259.out.cell 0
      have ck101_1 : (w240).cell? ⟨w74.heap.size, 1, none⟩ = some (.slice A75 n76 c77) := F259.out.cell 1
      have ck158_0 : (w240).cell? ⟨w119.heap.size, 0, none⟩ = some (.int .i64 x9.Start) := F260.out.cell 0
      have ck158_1 : (w240).cell? ⟨w119.heap.size, 1, none⟩ = some (.slice A120 n121 c122) := F260.out.cell 1
      go_wp2_with fail
      clear ck10_0 ck10_1 ck73_0 ck73_1 ck101_0 ck101_1 ck158_0 ck158_1
      (with_reducible refine (ux.eqByteS F254.out.rd F246.out.rd).mono ?_)
      rintro e w261 hp
      obtain ⟨rfl, hb⟩ := bx.b_parts rfl hp
      clear hp
      have B262 := Lib.hid (B247.out.trans (hb.mono B247.out.size))
      have Z263 := Lib.hid hb.size
      have F264 := Lib.hid (F249.out.below hb)
      have F265 := Lib.hid (F250.out.below hb)
      have F266 := Lib.hid (F251.out.below hb)
      have F267 := Lib.hid (F252.out.below hb)
      have F268 := Lib.hid (F253.out.below hb)
      have F269 := Lib.hid (F254.out.below hb)
      have F270 := Lib.hid (F255.out.below hb)
      have F271 := Lib.hid (F256.out.below hb)
      have F272 := Lib.hid (F246.out.below hb)
      have F273 := Lib.hid (F257.out.below hb)
      have F274 := Lib.hid (F258.out.below hb)
      have F275 := Lib.hid (F259.out.below hb)
      have F276 := Lib.hid (F260.out.below hb)
      clear hb B247 F249 F250 F251 F252 F253 F254 F255 F256 F246 F257 F258 F259 F260
      clear F272
      have ck10_0 : (w261).cell? ⟨w.heap.size, 0, none⟩ = some (.int .i64 f.Start) := F273.out.cell 0
      have ck10_1 : (w261).cell? ⟨w.heap.size, 1, none⟩ = some (.slice Af nf cf) := F273.out.cell 1
      have ck73_0 : (w261).cell? ⟨w47.heap.size, 0, none⟩ = some (.int .i64 x9.Start) := F274.out.cell 0
      have ck73_1 : (w261).cell? ⟨w47.heap.size, 1, none⟩ = some (.slice A48 n49 c50) := F274.out.cell 1
      have ck101_0 : (w261).cell? ⟨w74.heap.size, 0, none⟩ = some (.int .i64 f.Start) := F275.out.cell 0
      have ck101_1 : (w261).cell? ⟨w74.heap.size, 1, none⟩ = some (.slice A75 n76 c77) := F275.out.cell 1
      have ck158_0 : (w261).cell? ⟨w119.heap.size, 0, none⟩ = some (.int .i64 x9.Start) := F276.out.cell 0
      have ck158_1 : (w261).cell? ⟨w119.heap.size, 1, none⟩ = some (.slice A120 n121 c122) := F276.out.cell 1
      go_wp2_with fail
      clear ck10_0 ck10_1 ck73_0 ck73_1 ck101_0 ck101_1 ck158_0 ck158_1
      (with_reducible refine (ux.markReorderBuffer 1 F268.out (by have h1 := ro.rob_bd f; have h2 := (show (0:Int) ≤ 1 ∧ (1:Int) ≤ 4294967360 by omega); have h3 := S20.out; omega) S20.out).mono ?_)
      rintro e w277 hp
      obtain ⟨rfl, ho, hb⟩ := hp.parts
      clear hp
      obtain ⟨k1, hk9⟩ : ∃ k : Int, 1 + (ux.rob_tv f : Nat) = k := ⟨_, rfl⟩
      have Hk1 := Lib.hid hk9
      have Kk1 := Lib.hid (show 0 ≤ k1 ∧ k1 ≤ 1 + 4294967360 by have h1 := ro.rob_bd f; have h2 := (show (0:Int) ≤ 1 ∧ (1:Int) ≤ 4294967360 by omega); have h3 := S20.out; omega)
      have ngk1 : ¬ k1 < 0 := by have := Kk1.out; omega
      (first | rw [hk9] | (change Code.wp _ _ _ _ _; rw [hk9]) | skip)
      clear hk9
      have F278 := Lib.hid ho
      clear ho
      have B279 := Lib.hid (B262.out.trans (ux.ks_bel hb (fun b hb => by have z0 := Z4.out; have z1 := Z6.out; have z2 := Z15.out; have z3 := Z30.out; have z4 := Z42.out; have z5 := Z57.out; have z6 := Z64.out; have z7 := Z66.out; have z8 := Z82.out; have z9 := Z90.out; have z10 := Z92.out; have z11 := Z110.out; have z12 := Z132.out; have z13 := Z143.out; have z14 := Z145.out; have z15 := Z161.out; have z16 := Z176.out; have z17 := Z190.out; have z18 := Z211.out; have z19 := Z226.out; have z20 := Z248.out; have z21 := Z263.out; have zB := B262.out.size; have := F278.out.inn b hb; omega) B262.out.size))
      have Z280 := Lib.hid hb.size
      have F281 := Lib.hid (F264.out.ks hb (fun b h1 h2 h3 => by have z0 := Z4.out; have z1 := Z6.out; have z2 := Z15.out; have z3 := Z30.out; have z4 := Z42.out; have z5 := Z57.out; have z6 := Z64.out; have z7 := Z66.out; have z8 := Z82.out; have z9 := Z90.out; have z10 := Z92.out; have z11 := Z110.out; have z12 := Z132.out; have z13 := Z143.out; have z14 := Z145.out; have z15 := Z161.out; have z16 := Z176.out; have z17 := Z190.out; have z18 := Z211.out; have z19 := Z226.out; have z20 := Z248.out; have z21 := Z263.out; have z22 := Z280.out; have q2 := F278.out.inn b h3; omega))
      have F282 := Lib.hid (F265.out.ks hb (fun b h1 h2 h3 => by have z0 := Z4.out; have z1 := Z6.out; have z2 := Z15.out; have z3 := Z30.out; have z4 := Z42.out; have z5 := Z57.out; have z6 := Z64.out; have z7 := Z66.out; have z8 := Z82.out; have z9 := Z90.out; have z10 := Z92.out; have z11 := Z110.out; have z12 := Z132.out; have z13 := Z143.out; have z14 := Z145.out; have z15 := Z161.out; have z16 := Z176.out; have z17 := Z190.out; have z18 := Z211.out; have z19 := Z226.out; have z20 := Z248.out; have z21 := Z263.out; have z22 := Z280.out; have q2 := F278.out.inn b h3; omega))
      have F283 := Lib.hid (F266.out.ks hb (fun b h1 h2 h3 => by have z0 := Z4.out; have z1 := Z6.out; have z2 := Z15.out; have z3 := Z30.out; have z4 := Z42.out; have z5 := Z57.out; have z6 := Z64.out; have z7 := Z66.out; have z8 := Z82.out; have z9 := Z90.out; have z10 := Z92.out; have z11 := Z110.out; have z12 := Z132.out; have z13 := Z143.out; have z14 := Z145.out; have z15 := Z161.out; have z16 := Z176.out; have z17 := Z190.out; have z18 := Z211.out; have z19 := Z226.out; have z20 := Z248.out; have z21 := Z263.out; have z22 := Z280.out; have q2 := F278.out.inn b h3; omega))
      have F284 := Lib.hid (F267.out.ks hb (fun b h1 h2 h3 => by have z0 := Z4.out; have z1 := Z6.out; have z2 := Z15.out; have z3 := Z30.out; have z4 := Z42.out; have z5 := Z57.out; have z6 := Z64.out; have z7 := Z66.out; have z8 := Z82.out; have z9 := Z90.out; have z10 := Z92.out; have z11 := Z110.out; have z12 := Z132.out; have z13 := Z143.out; have z14 := Z145.out; have z15 := Z161.out; have z16 := Z176.out; have z17 := Z190.out; have z18 := Z211.out; have z19 := Z226.out; have z20 := Z248.out; have z21 := Z263.out; have z22 := Z280.out; have q2 := F278.out.inn b h3; omega))
      have F285 := Lib.hid (F269.out.ks hb (fun b h1 h2 => by have z0 := Z4.out; have z1 := Z6.out; have z2 := Z15.out; have z3 := Z30.out; have z4 := Z42.out; have z5 := Z57.out; have z6 := Z64.out; have z7 := Z66.out; have z8 := Z82.out; have z9 := Z90.out; have z10 := Z92.out; have z11 := Z110.out; have z12 := Z132.out; have z13 := Z143.out; have z14 := Z145.out; have z15 := Z161.out; have z16 := Z176.out; have z17 := Z190.out; have z18 := Z211.out; have z19 := Z226.out; have z20 := Z248.out; have z21 := Z263.out; have z22 := Z280.out; have q1 := F269.out.inn b h1; have q2 := F278.out.inn b h2; omega))
      have F286 := Lib.hid (F270.out.ks hb (fun b h1 h2 => by have z0 := Z4.out; have z1 := Z6.out; have z2 := Z15.out; have z3 := Z30.out; have z4 := Z42.out; have z5 := Z57.out; have z6 := Z64.out; have z7 := Z66.out; have z8 := Z82.out; have z9 := Z90.out; have z10 := Z92.out; have z11 := Z110.out; have z12 := Z132.out; have z13 := Z143.out; have z14 := Z145.out; have z15 := Z161.out; have z16 := Z176.out; have z17 := Z190.out; have z18 := Z211.out; have z19 := Z226.out; have z20 := Z248.out; have z21 := Z263.out; have z22 := Z280.out; have q1 := F270.out.inn b h1; have q2 := F278.out.inn b h2; omega))
      have F287 := Lib.hid (F271.out.ks hb (fun b h1 h2 => by have z0 := Z4.out; have z1 := Z6.out; have z2 := Z15.out; have z3 := Z30.out; have z4 := Z42.out; have z5 := Z57.out; have z6 := Z64.out; have z7 := Z66.out; have z8 := Z82.out; have z9 := Z90.out; have z10 := Z92.out; have z11 := Z110.out; have z12 := Z132.out; have z13 := Z143.out; have z14 := Z145.out; have z15 := Z161.out; have z16 := Z176.out; have z17 := Z190.out; have z18 := Z211.out; have z19 := Z226.out; have z20 := Z248.out; have z21 := Z263.out; have z22 := Z280.out; have q1 := F271.out.inn b h1; have q2 := F278.out.inn b h2; omega))
      have F288 := Lib.hid (fr.bx_ks F273.out hb (fun h3 => by have z0 := Z4.out; have z1 := Z6.out; have z2 := Z15.out; have z3 := Z30.out; have z4 := Z42.out; have z5 := Z57.out; have z6 := Z64.out; have z7 := Z66.out; have z8 := Z82.out; have z9 := Z90.out; have z10 := Z92.out; have z11 := Z110.out; have z12 := Z132.out; have z13 := Z143.out; have z14 := Z145.out; have z15 := Z161.out; have z16 := Z176.out; have z17 := Z190.out; have z18 := Z211.out; have z19 := Z226.out; have z20 := Z248.out; have z21 := Z263.out; have z22 := Z280.out; have q2 := F278.out.inn _ h3; omega))
      have F289 := Lib.hid (fr.bx_ks F274.out hb (fun h3 => by have z0 := Z4.out; have z1 := Z6.out; have z2 := Z15.out; have z3 := Z30.out; have z4 := Z42.out; have z5 := Z57.out; have z6 := Z64.out; have z7 := Z66.out; have z8 := Z82.out; have z9 := Z90.out; have z10 := Z92.out; have z11 := Z110.out; have z12 := Z132.out; have z13 := Z143.out; have z14 := Z145.out; have z15 := Z161.out; have z16 := Z176.out; have z17 := Z190.out; have z18 := Z211.out; have z19 := Z226.out; have z20 := Z248.out; have z21 := Z263.out; have z22 := Z280.out; have q2 := F278.out.inn _ h3; omega))
      have F290 := Lib.hid (fr.bx_ks F275.out hb (fun h3 => by have z0 := Z4.out; have z1 := Z6.out; have z2 := Z15.out; have z3 := Z30.out; have z4 := Z42.out; have z5 := Z57.out; have z6 := Z64.out; have z7 := Z66.out; have z8 := Z82.out; have z9 := Z90.out; have z10 := Z92.out; have z11 := Z110.out; have z12 := Z132.out; have z13 := Z143.out; have z14 := Z145.out; have z15 := Z161.out; have z16 := Z176.out; have z17 := Z190.out; have z18 := Z211.out; have z19 := Z226.out; have z20 := Z248.out; have z21 := Z263.out; have z22 := Z280.out; have q2 := F278.out.inn _ h3; omega))
      have F291 := Lib.hid (fr.bx_ks F276.out hb (fun h3 => by have z0 := Z4.out; have z1 := Z6.out; have z2 := Z15.out; have z3 := Z30.out; have z4 := Z42.out; have z5 := Z57.out; have z6 := Z64.out; have z7 := Z66.out; have z8 := Z82.out; have z9 := Z90.out; have z10 := Z92.out; have z11 := Z110.out; have z12 := Z132.out; have z13 := Z143.out; have z14 := Z145.out; have z15 := Z161.out; have z16 := Z176.out; have z17 := Z190.out; have z18 := Z211.out; have z19 := Z226.out; have z20 := Z248.out; have z21 := Z263.out; have z22 := Z280.out; have q2 := F278.out.inn _ h3; omega))
      clear hb B262 F264 F265 F266 F267 F269 F270 F271 F273 F274 F275 F276
      clear F268
      clear F290
      clear F278
      have ck10_0 : (w277).cell? ⟨w.heap.size, 0, none⟩ = some (.int .i64 f.Start) := F288.out.cell 0
      have ck10_1 : (w277).cell? ⟨w.heap.size, 1, none⟩ = some (.slice Af nf cf) := F288.out.cell 1
      have ck73_0 : (w277).cell? ⟨w47.heap.size, 0, none⟩ = some (.int .i64 x9.Start) := F289.out.cell 0
      have ck73_1 : (w277).cell? ⟨w47.heap.size, 1, none⟩ = some (.slice A48 n49 c50) := F289.out.cell 1
      have ck158_0 : (w277).cell? ⟨w119.heap.size, 0, none⟩ = some (.int .i64 x9.Start) := F291.out.cell 0
      have ck158_1 : (w277).cell? ⟨w119.heap.size, 1, none⟩ = some (.slice A120 n121 c122) := F291.out.cell 1
      go_wp2_with fail
      clear ck10_0 ck10_1 ck73_0 ck73_1 ck158_0 ck158_1
      (with_reducible refine (ux.markByteS k1 F285.out (by have h1 := ux.bytes_tot zb; have h2 := Kk1.out; have h3 := SB.out; omega) SB.out).mono ?_)
      rintro e w292 hp
      obtain ⟨rfl, ho, hb⟩ := hp.parts
      clear hp
      obtain ⟨k2, hk9⟩ : ∃ k : Int, k1 + (ux.bytes.tot zb : Nat) = k := ⟨_, rfl⟩
      have Hk2 := Lib.hid hk9
      have Kk2 := Lib.hid (show 0 ≤ k2 ∧ k2 ≤ k1 + 4294967360 by have h1 := ux.bytes_tot zb; have h2 := Kk1.out; have h3 := SB.out; omega)
      have ngk2 : ¬ k2 < 0 := by have := Kk2.out; omega
      (first | rw [hk9] | (change Code.wp _ _ _ _ _; rw [hk9]) | skip)
      clear hk9
      have F293 := Lib.hid ho
      clear ho
      have B294 := Lib.hid (B279.out.trans (ux.ks_bel hb (fun b hb => by have z0 := Z4.out; have z1 := Z6.out; have z2 := Z15.out; have z3 := Z30.out; have z4 := Z42.out; have z5 := Z57.out; have z6 := Z64.out; have z7 := Z66.out; have z8 := Z82.out; have z9 := Z90.out; have z10 := Z92.out; have z11 := Z110.out; have z12 := Z132.out; have z13 := Z143.out; have z14 := Z145.out; have z15 := Z161.out; have z16 := Z176.out; have z17 := Z190.out; have z18 := Z211.out; have z19 := Z226.out; have z20 := Z248.out; have z21 := Z263.out; have z22 := Z280.out; have zB := B279.out.size; have := F293.out.inn b hb; omega) B279.out.size))
      have Z295 := Lib.hid hb.size
      have F296 := Lib.hid (F281.out.ks hb (fun b h1 h2 h3 => by have z0 := Z4.out; have z1 := Z6.out; have z2 := Z15.out; have z3 := Z30.out; have z4 := Z42.out; have z5 := Z57.out; have z6 := Z64.out; have z7 := Z66.out; have z8 := Z82.out; have z9 := Z90.out; have z10 := Z92.out; have z11 := Z110.out; have z12 := Z132.out; have z13 := Z143.out; have z14 := Z145.out; have z15 := Z161.out; have z16 := Z176.out; have z17 := Z190.out; have z18 := Z211.out; have z19 := Z226.out; have z20 := Z248.out; have z21 := Z263.out; have z22 := Z280.out; have z23 := Z295.out; have q2 := F293.out.inn b h3; omega))
      have F297 := Lib.hid (F282.out.ks hb (fun b h1 h2 h3 => by have z0 := Z4.out; have z1 := Z6.out; have z2 := Z15.out; have z3 := Z30.out; have z4 := Z42.out; have z5 := Z57.out; have z6 := Z64.out; have z7 := Z66.out; have z8 := Z82.out; have z9 := Z90.out; have z10 := Z92.out; have z11 := Z110.out; have z12 := Z132.out; have z13 := Z143.out; have z14 := Z145.out; have z15 := Z161.out; have z16 := Z176.out; have z17 := Z190.out; have z18 := Z211.out; have z19 := Z226.out; have z20 := Z248.out; have z21 := Z263.out; have z22 := Z280.out; have z23 := Z295.out; have q2 := F293.out.inn b h3; omega))
      have F298 := Lib.hid (F283.out.ks hb (fun b h1 h2 h3 => by have z0 := Z4.out; have z1 := Z6.out; have z2 := Z15.out; have z3 := Z30.out; have z4 := Z42.out; have z5 := Z57.out; have z6 := Z64.out; have z7 := Z66.out; have z8 := Z82.out; have z9 := Z90.out; have z10 := Z92.out; have z11 := Z110.out; have z12 := Z132.out; have z13 := Z143.out; have z14 := Z145.out; have z15 := Z161.out; have z16 := Z176.out; have z17 := Z190.out; have z18 := Z211.out; have z19 := Z226.out; have z20 := Z248.out; have z21 := Z263.out; have z22 := Z280.out; have z23 := Z295.out; have q2 := F293.out.inn b h3; omega))
      have F299 := Lib.hid (F284.out.ks hb (fun b h1 h2 h3 => by have z0 := Z4.out; have z1 := Z6.out; have z2 := Z15.out; have z3 := Z30.out; have z4 := Z42.out; have z5 := Z57.out; have z6 := Z64.out; have z7 := Z66.out; have z8 := Z82.out; have z9 := Z90.out; have z10 := Z92.out; have z11 := Z110.out; have z12 := Z132.out; have z13 := Z143.out; have z14 := Z145.out; have z15 := Z161.out; have z16 := Z176.out; have z17 := Z190.out; have z18 := Z211.out; have z19 := Z226.out; have z20 := Z248.out; have z21 := Z263.out; have z22 := Z280.out; have z23 := Z295.out; have q2 := F293.out.inn b h3; omega))
      have F300 := Lib.hid (F286.out.ks hb (fun b h1 h2 => by have z0 := Z4.out; have z1 := Z6.out; have z2 := Z15.out; have z3 := Z30.out; have z4 := Z42.out; have z5 := Z57.out; have z6 := Z64.out; have z7 := Z66.out; have z8 := Z82.out; have z9 := Z90.out; have z10 := Z92.out; have z11 := Z110.out; have z12 := Z132.out; have z13 := Z143.out; have z14 := Z145.out; have z15 := Z161.out; have z16 := Z176.out; have z17 := Z190.out; have z18 := Z211.out; have z19 := Z226.out; have z20 := Z248.out; have z21 := Z263.out; have z22 := Z280.out; have z23 := Z295.out; have q1 := F286.out.inn b h1; have q2 := F293.out.inn b h2; omega))
      have F301 := Lib.hid (F287.out.ks hb (fun b h1 h2 => by have z0 := Z4.out; have z1 := Z6.out; have z2 := Z15.out; have z3 := Z30.out; have z4 := Z42.out; have z5 := Z57.out; have z6 := Z64.out; have z7 := Z66.out; have z8 := Z82.out; have z9 := Z90.out; have z10 := Z92.out; have z11 := Z110.out; have z12 := Z132.out; have z13 := Z143.out; have z14 := Z145.out; have z15 := Z161.out; have z16 := Z176.out; have z17 := Z190.out; have z18 := Z211.out; have z19 := Z226.out; have z20 := Z248.out; have z21 := Z263.out; have z22 := Z280.out; have z23 := Z295.out; have q1 := F287.out.inn b h1; have q2 := F293.out.inn b h2; omega))
      have F302 := Lib.hid (fr.bx_ks F288.out hb (fun h3 => by have z0 := Z4.out; have z1 := Z6.out; have z2 := Z15.out; have z3 := Z30.out; have z4 := Z42.out; have z5 := Z57.out; have z6 := Z64.out; have z7 := Z66.out; have z8 := Z82.out; have z9 := Z90.out; have z10 := Z92.out; have z11 := Z110.out; have z12 := Z132.out; have z13 := Z143.out; have z14 := Z145.out; have z15 := Z161.out; have z16 := Z176.out; have z17 := Z190.out; have z18 := Z211.out; have z19 := Z226.out; have z20 := Z248.out; have z21 := Z263.out; have z22 := Z280.out; have z23 := Z295.out; have q2 := F293.out.inn _ h3; omega))
      have F303 := Lib.hid (fr.bx_ks F289.out hb (fun h3 => by have z0 := Z4.out; have z1 := Z6.out; have z2 := Z15.out; have z3 := Z30.out; have z4 := Z42.out; have z5 := Z57.out; have z6 := Z64.out; have z7 := Z66.out; have z8 := Z82.out; have z9 := Z90.out; have z10 := Z92.out; have z11 := Z110.out; have z12 := Z132.out; have z13 := Z143.out; have z14 := Z145.out; have z15 := Z161.out; have z16 := Z176.out; have z17 := Z190.out; have z18 := Z211.out; have z19 := Z226.out; have z20 := Z248.out; have z21 := Z263.out; have z22 := Z280.out; have z23 := Z295.out; have q2 := F293.out.inn _ h3; omega))
      have F304 := Lib.hid (fr.bx_ks F291.out hb (fun h3 => by have z0 := Z4.out; have z1 := Z6.out; have z2 := Z15.out; have z3 := Z30.out; have z4 := Z42.out; have z5 := Z57.out; have z6 := Z64.out; have z7 := Z66.out; have z8 := Z82.out; have z9 := Z90.out; have z10 := Z92.out; have z11 := Z110.out; have z12 := Z132.out; have z13 := Z143.out; have z14 := Z145.out; have z15 := Z161.out; have z16 := Z176.out; have z17 := Z190.out; have z18 := Z211.out; have z19 := Z226.out; have z20 := Z248.out; have z21 := Z263.out; have z22 := Z280.out; have z23 := Z295.out; have q2 := F293.out.inn _ h3; omega))
      clear hb B279 F281 F282 F283 F284 F286 F287 F288 F289 F291
      clear F285
      clear F293
      have ck10_0 : (w292).cell? ⟨w.heap.size, 0, none⟩ = some (.int .i64 f.Start) := F302.out.cell 0
      have ck10_1 : (w292).cell? ⟨w.heap.size, 1, none⟩ = some (.slice Af nf cf) := F302.out.cell 1
      have ck73_0 : (w292).cell? ⟨w47.heap.size, 0, none⟩ = some (.int .i64 x9.Start) := F303.out.cell 0
      have ck73_1 : (w292).cell? ⟨w47.heap.size, 1, none⟩ = some (.slice A48 n49 c50) := F303.out.cell 1
      have ck158_0 : (w292).cell? ⟨w119.heap.size, 0, none⟩ = some (.int .i64 x9.Start) := F304.out.cell 0
      have ck158_1 : (w292).cell? ⟨w119.heap.size, 1, none⟩ = some (.slice A120 n121 c122) := F304.out.cell 1
      go_wp2_with fail
      clear ck10_0 ck10_1 ck73_0 ck73_1 ck158_0 ck158_1
      (with_reducible refine (ux.eqReorderBuffer F300.out.rd F298.out).mono ?_)
      rintro e w305 hp
      obtain ⟨rfl, hb⟩ := bx.b_parts rfl hp
      clear hp
      have B306 := Lib.hid (B294.out.trans (hb.mono B294.out.size))
      have Z307 := Lib.hid hb.size
      have F308 := Lib.hid (F296.out.below hb)
      have F309 := Lib.hid (F297.out.below hb)
      have F310 := Lib.hid (F298.out.below hb)
      have F311 := Lib.hid (F299.out.below hb)
      have F312 := Lib.hid (F300.out.below hb)
      have F313 := Lib.hid (F301.out.below hb)
      have F314 := Lib.hid (F302.out.below hb)
      have F315 := Lib.hid (F303.out.below hb)
      have F316 := Lib.hid (F304.out.below hb)
      clear hb B294 F296 F297 F298 F299 F300 F301 F302 F303 F304
      have ck10_0 : (w305).cell? ⟨w.heap.size, 0, none⟩ = some (.int .i64 f.Start) := F314.out.cell 0
      have ck10_1 : (w305).cell? ⟨w.heap.size, 1, none⟩ = some (.slice Af nf cf) := F314.out.cell 1
      have ck73_0 : (w305).cell? ⟨w47.heap.size, 0, none⟩ = some (.int .i64 x9.Start) := F315.out.cell 0
      have ck73_1 : (w305).cell? ⟨w47.heap.size, 1, none⟩ = some (.slice A48 n49 c50) := F315.out.cell 1
      have ck158_0 : (w305).cell? ⟨w119.heap.size, 0, none⟩ = some (.int .i64 x9.Start) := F316.out.cell 0
      have ck158_1 : (w305).cell? ⟨w119.heap.size, 1, none⟩ = some (.slice A120 n121 c122) := F316.out.cell 1
      go_wp2_with fail
      clear ck10_0 ck10_1 ck73_0 ck73_1 ck158_0 ck158_1
      (with_reducible refine (ux.eqByteSS F313.out.rd F311.out).mono ?_)
      rintro e w317 hp
      obtain ⟨rfl, hb⟩ := bx.b_parts rfl hp
      clear hp
      have B318 := Lib.hid (B306.out.trans (hb.mono B306.out.size))
      have Z319 := Lib.hid hb.size
      have F320 := Lib.hid (F308.out.below hb)
      have F321 := Lib.hid (F309.out.below hb)
      have F322 := Lib.hid (F310.out.below hb)
      have F323 := Lib.hid (F311.out.below hb)
      have F324 := Lib.hid (F312.out.below hb)
      have F325 := Lib.hid (F313.out.below hb)
      have F326 := Lib.hid (F314.out.below hb)
      have F327 := Lib.hid (F315.out.below hb)
      have F328 := Lib.hid (F316.out.below hb)
      clear hb B306 F308 F309 F310 F311 F312 F313 F314 F315 F316
      have ck10_0 : (w317).cell? ⟨w.heap.size, 0, none⟩ = some (.int .i64 f.Start) := F326.out.cell 0
      have ck10_1 : (w317).cell? ⟨w.heap.size, 1, none⟩ = some (.slice Af nf cf) := F326.out.cell 1
      have ck73_0 : (w317).cell? ⟨w47.heap.size, 0, none⟩ = some (.int .i64 x9.Start) := F327.out.cell 0
      have ck73_1 : (w317).cell? ⟨w47.heap.size, 1, none⟩ = some (.slice A48 n49 c50) := F327.out.cell 1
      have ck158_0 : (w317).cell? ⟨w119.heap.size, 0, none⟩ = some (.int .i64 x9.Start) := F328.out.cell 0
      have ck158_1 : (w317).cell? ⟨w119.heap.size, 1, none⟩ = some (.slice A120 n121 c122) := F328.out.cell 1
      go_wp2_with fail
      clear ck10_0 ck10_1 ck73_0 ck73_1 ck158_0 ck158_1
      (with_reducible refine (ux.markReorderBuffer 1 F324.out (by have h1 := ro.rob_bd x9; have h2 := (show (0:Int) ≤ 1 ∧ (1:Int) ≤ 4294967360 by omega); have h3 := SXA.out; omega) SXA.out).mono ?_)
      rintro e w329 hp
      obtain ⟨rfl, ho, hb⟩ := hp.parts
      clear hp
      obtain ⟨m1, hk9⟩ : ∃ k : Int, 1 + (ux.rob_tv x9 : Nat) = k := ⟨_, rfl⟩
      have Hm1 := Lib.hid hk9
      have Km1 := Lib.hid (show 0 ≤ m1 ∧ m1 ≤ 1 + 4294967360 by have h1 := ro.rob_bd x9; have h2 := (show (0:Int) ≤ 1 ∧ (1:Int) ≤ 4294967360 by omega); have h3 := SXA.out; omega)
      have ngm1 : ¬ m1 < 0 := by have := Km1.out; omega
      (first | rw [hk9] | (change Code.wp _ _ _ _ _; rw [hk9]) | skip)
      clear hk9
      have F330 := Lib.hid ho
      clear ho
      have B331 := Lib.hid (B318.out.trans (ux.ks_bel hb (fun b hb => by have z0 := Z4.out; have z1 := Z6.out; have z2 := Z15.out; have z3 := Z30.out; have z4 := Z42.out; have z5 := Z57.out; have z6 := Z64.out; have z7 := Z66.out; have z8 := Z82.out; have z9 := Z90.out; have z10 := Z92.out; have z11 := Z110.out; have z12 := Z132.out; have z13 := Z143.out; have z14 := Z145.out; have z15 := Z161.out; have z16 := Z176.out; have z17 := Z190.out; have z18 := Z211.out; have z19 := Z226.out; have z20 := Z248.out; have z21 := Z263.out; have z22 := Z280.out; have z23 := Z295.out; have z24 := Z307.out; have z25 := Z319.out; have zB := B318.out.size; have := F330.out.inn b hb; omega) B318.out.size))
      have Z332 := Lib.hid hb.size
      have F333 := Lib.hid (F320.out.ks hb (fun b h1 h2 h3 => by have z0 := Z4.out; have z1 := Z6.out; have z2 := Z15.out; have z3 := Z30.out; have z4 := Z42.out; have z5 := Z57.out; have z6 := Z64.out; have z7 := Z66.out; have z8 := Z82.out; have z9 := Z90.out; have z10 := Z92.out; have z11 := Z110.out; have z12 := Z132.out; have z13 := Z143.out; have z14 := Z145.out; have z15 := Z161.out; have z16 := Z176.out; have z17 := Z190.out; have z18 := Z211.out; have z19 := Z226.out; have z20 := Z248.out; have z21 := Z263.out; have z22 := Z280.out; have z23 := Z295.out; have z24 := Z307.out; have z25 := Z319.out; have z26 := Z332.out; have q2 := F330.out.inn b h3; omega))
      have F334 := Lib.hid (F321.out.ks hb (fun b h1 h2 h3 => by have z0 := Z4.out; have z1 := Z6.out; have z2 := Z15.out; have z3 := Z30.out; have z4 := Z42.out; have z5 := Z57.out; have z6 := Z64.out; have z7 := Z66.out; have z8 := Z82.out; have z9 := Z90.out; have z10 := Z92.out; have z11 := Z110.out; have z12 := Z132.out; have z13 := Z143.out; have z14 := Z145.out; have z15 := Z161.out; have z16 := Z176.out; have z17 := Z190.out; have z18 := Z211.out; have z19 := Z226.out; have z20 := Z248.out; have z21 := Z263.out; have z22 := Z280.out; have z23 := Z295.out; have z24 := Z307.out; have z25 := Z319.out; have z26 := Z332.out; have q2 := F330.out.inn b h3; omega))
      have F335 := Lib.hid (F322.out.ks hb (fun b h1 h2 h3 => by have z0 := Z4.out; have z1 := Z6.out; have z2 := Z15.out; have z3 := Z30.out; have z4 := Z42.out; have z5 := Z57.out; have z6 := Z64.out; have z7 := Z66.out; have z8 := Z82.out; have z9 := Z90.out; have z10 := Z92.out; have z11 := Z110.out; have z12 := Z132.out; have z13 := Z143.out; have z14 := Z145.out; have z15 := Z161.out; have z16 := Z176.out; have z17 := Z190.out; have z18 := Z211.out; have z19 := Z226.out; have z20 := Z248.out; have z21 := Z263.out; have z22 := Z280.out; have z23 := Z295.out; have z24 := Z307.out; have z25 := Z319.out; have z26 := Z332.out; have q2 := F330.out.inn b h3; omega))
      have F336 := Lib.hid (F323.out.ks hb (fun b h1 h2 h3 => by have z0 := Z4.out; have z1 := Z6.out; have z2 := Z15.out; have z3 := Z30.out; have z4 := Z42.out; have z5 := Z57.out; have z6 := Z64.out; have z7 := Z66.out; have z8 := Z82.out; have z9 := Z90.out; have z10 := Z92.out; have z11 := Z110.out; have z12 := Z132.out; have z13 := Z143.out; have z14 := Z145.out; have z15 := Z161.out; have z16 := Z176.out; have z17 := Z190.out; have z18 := Z211.out; have z19 := Z226.out; have z20 := Z248.out; have z21 := Z263.out; have z22 := Z280.out; have z23 := Z295.out; have z24 := Z307.out; have z25 := Z319.out; have z26 := Z332.out; have q2 := F330.out.inn b h3; omega))
      have F337 := Lib.hid (F325.out.ks hb (fun b h1 h2 => HAP128.out b h2 h1))
      have F338 := Lib.hid (fr.bx_ks F326.out hb (fun h3 => by have z0 := Z4.out; have z1 := Z6.out; have z2 := Z15.out; have z3 := Z30.out; have z4 := Z42.out; have z5 := Z57.out; have z6 := Z64.out; have z7 := Z66.out; have z8 := Z82.out; have z9 := Z90.out; have z10 := Z92.out; have z11 := Z110.out; have z12 := Z132.out; have z13 := Z143.out; have z14 := Z145.out; have z15 := Z161.out; have z16 := Z176.out; have z17 := Z190.out; have z18 := Z211.out; have z19 := Z226.out; have z20 := Z248.out; have z21 := Z263.out; have z22 := Z280.out; have z23 := Z295.out; have z24 := Z307.out; have z25 := Z319.out; have z26 := Z332.out; have q2 := F330.out.inn _ h3; omega))
      have F339 := Lib.hid (fr.bx_ks F327.out hb (fun h3 => by have z0 := Z4.out; have z1 := Z6.out; have z2 := Z15.out; have z3 := Z30.out; have z4 := Z42.out; have z5 := Z57.out; have z6 := Z64.out; have z7 := Z66.out; have z8 := Z82.out; have z9 := Z90.out; have z10 := Z92.out; have z11 := Z110.out; have z12 := Z132.out; have z13 := Z143.out; have z14 := Z145.out; have z15 := Z161.out; have z16 := Z176.out; have z17 := Z190.out; have z18 := Z211.out; have z19 := Z226.out; have z20 := Z248.out; have z21 := Z263.out; have z22 := Z280.out; have z23 := Z295.out; have z24 := Z307.out; have z25 := Z319.out; have z26 := Z332.out; have q2 := F330.out.inn _ h3; omega))
      have F340 := Lib.hid (fr.bx_ks F328.out hb (fun h3 => by have z0 := Z4.out; have z1 := Z6.out; have z2 := Z15.out; have z3 := Z30.out; have z4 := Z42.out; have z5 := Z57.out; have z6 := Z64.out; have z7 := Z66.out; have z8 := Z82.out; have z9 := Z90.out; have z10 := Z92.out; have z11 := Z110.out; have z12 := Z132.out; have z13 := Z143.out; have z14 := Z145.out; have z15 := Z161.out; have z16 := Z176.out; have z17 := Z190.out; have z18 := Z211.out; have z19 := Z226.out; have z20 := Z248.out; have z21 := Z263.out; have z22 := Z280.out; have z23 := Z295.out; have z24 := Z307.out; have z25 := Z319.out; have z26 := Z332.out; have q2 := F330.out.inn _ h3; omega))
      clear hb B318 F320 F321 F322 F323 F325 F326 F327 F328
      clear F324
      have ck10_0 : (w329).cell? ⟨w.heap.size, 0, none⟩ = some (.int .i64 f.Start) := F338.out.cell 0
      have ck10_1 : (w329).cell? ⟨w.heap.size, 1, none⟩ = some (.slice Af nf cf) := F338.out.cell 1
      have ck73_0 : (w329).cell? ⟨w47.heap.size, 0, none⟩ = some (.int .i64 x9.Start) := F339.out.cell 0
      have ck73_1 : (w329).cell? ⟨w47.heap.size, 1, none⟩ = some (.slice A48 n49 c50) := F339.out.cell 1
      have ck158_0 : (w329).cell? ⟨w119.heap.size, 0, none⟩ = some (.int .i64 x9.Start) := F340.out.cell 0
      have ck158_1 : (w329).cell? ⟨w119.heap.size, 1, none⟩ = some (.slice A120 n121 c122) := F340.out.cell 1
      go_wp2_with fail
      clear ck10_0 ck10_1 ck73_0 ck73_1 ck158_0 ck158_1
      (with_reducible refine (ux.markByteSS m1 F337.out (by have h1 := ro.rowB_bd l9; have h2 := Km1.out; have h3 := SXB.out; omega) SXB.out).mono ?_)
      rintro e w341 hp
      obtain ⟨rfl, ho, hb⟩ := hp.parts
      clear hp
      obtain ⟨m2, hk9⟩ : ∃ k : Int, m1 + (ux.rowB.tot l9 : Nat) = k := ⟨_, rfl⟩
      have Hm2 := Lib.hid hk9
      have Km2 := Lib.hid (show 0 ≤ m2 ∧ m2 ≤ m1 + 4294967360 by have h1 := ro.rowB_bd l9; have h2 := Km1.out; have h3 := SXB.out; omega)
      have ngm2 : ¬ m2 < 0 := by have := Km2.out; omega
      (first | rw [hk9] | (change Code.wp _ _ _ _ _; rw [hk9]) | skip)
      clear hk9
      have F342 := Lib.hid ho
      clear ho
      have B343 := Lib.hid (B331.out.trans (ux.ks_bel hb (fun b hb => by have z0 := Z4.out; have z1 := Z6.out; have z2 := Z15.out; have z3 := Z30.out; have z4 := Z42.out; have z5 := Z57.out; have z6 := Z64.out; have z7 := Z66.out; have z8 := Z82.out; have z9 := Z90.out; have z10 := Z92.out; have z11 := Z110.out; have z12 := Z132.out; have z13 := Z143.out; have z14 := Z145.out; have z15 := Z161.out; have z16 := Z176.out; have z17 := Z190.out; have z18 := Z211.out; have z19 := Z226.out; have z20 := Z248.out; have z21 := Z263.out; have z22 := Z280.out; have z23 := Z295.out; have z24 := Z307.out; have z25 := Z319.out; have z26 := Z332.out; have zB := B331.out.size; have := F342.out.inn b hb; omega) B331.out.size))
      have Z344 := Lib.hid hb.size
      have F345 := Lib.hid (F333.out.ks hb (fun b h1 h2 h3 => by have z0 := Z4.out; have z1 := Z6.out; have z2 := Z15.out; have z3 := Z30.out; have z4 := Z42.out; have z5 := Z57.out; have z6 := Z64.out; have z7 := Z66.out; have z8 := Z82.out; have z9 := Z90.out; have z10 := Z92.out; have z11 := Z110.out; have z12 := Z132.out; have z13 := Z143.out; have z14 := Z145.out; have z15 := Z161.out; have z16 := Z176.out; have z17 := Z190.out; have z18 := Z211.out; have z19 := Z226.out; have z20 := Z248.out; have z21 := Z263.out; have z22 := Z280.out; have z23 := Z295.out; have z24 := Z307.out; have z25 := Z319.out; have z26 := Z332.out; have z27 := Z344.out; have q2 := F342.out.inn b h3; omega))
      have F346 := Lib.hid (F334.out.ks hb (fun b h1 h2 h3 => by have z0 := Z4.out; have z1 := Z6.out; have z2 := Z15.out; have z3 := Z30.out; have z4 := Z42.out; have z5 := Z57.out; have z6 := Z64.out; have z7 := Z66.out; have z8 := Z82.out; have z9 := Z90.out; have z10 := Z92.out; have z11 := Z110.out; have z12 := Z132.out; have z13 := Z143.out; have z14 := Z145.out; have z15 := Z161.out; have z16 := Z176.out; have z17 := Z190.out; have z18 := Z211.out; have z19 := Z226.out; have z20 := Z248.out; have z21 := Z263.out; have z22 := Z280.out; have z23 := Z295.out; have z24 := Z307.out; have z25 := Z319.out; have z26 := Z332.out; have z27 := Z344.out; have q2 := F342.out.inn b h3; omega))
      have F347 := Lib.hid (F335.out.ks hb (fun b h1 h2 h3 => by have z0 := Z4.out; have z1 := Z6.out; have z2 := Z15.out; have z3 := Z30.out; have z4 := Z42.out; have z5 := Z57.out; have z6 := Z64.out; have z7 := Z66.out; have z8 := Z82.out; have z9 := Z90.out; have z10 := Z92.out; have z11 := Z110.out; have z12 := Z132.out; have z13 := Z143.out; have z14 := Z145.out; have z15 := Z161.out; have z16 := Z176.out; have z17 := Z190.out; have z18 := Z211.out; have z19 := Z226.out; have z20 := Z248.out; have z21 := Z263.out; have z22 := Z280.out; have z23 := Z295.out; have z24 := Z307.out; have z25 := Z319.out; have z26 := Z332.out; have z27 := Z344.out; have q2 := F342.out.inn b h3; omega))
      have F348 := Lib.hid (F336.out.ks hb (fun b h1 h2 h3 => by have z0 := Z4.out; have z1 := Z6.out; have z2 := Z15.out; have z3 := Z30.out; have z4 := Z42.out; have z5 := Z57.out; have z6 := Z64.out; have z7 := Z66.out; have z8 := Z82.out; have z9 := Z90.out; have z10 := Z92.out; have z11 := Z110.out; have z12 := Z132.out; have z13 := Z143.out; have z14 := Z145.out; have z15 := Z161.out; have z16 := Z176.out; have z17 := Z190.out; have z18 := Z211.out; have z19 := Z226.out; have z20 := Z248.out; have z21 := Z263.out; have z22 := Z280.out; have z23 := Z295.out; have z24 := Z307.out; have z25 := Z319.out; have z26 := Z332.out; have z27 := Z344.out; have q2 := F342.out.inn b h3; omega))
      have F349 := Lib.hid (F330.out.ks hb (fun b h1 h2 => HAP128.out b h1 h2))
      have F350 := Lib.hid (fr.bx_ks F338.out hb (fun h3 => by have z0 := Z4.out; have z1 := Z6.out; have z2 := Z15.out; have z3 := Z30.out; have z4 := Z42.out; have z5 := Z57.out; have z6 := Z64.out; have z7 := Z66.out; have z8 := Z82.out; have z9 := Z90.out; have z10 := Z92.out; have z11 := Z110.out; have z12 := Z132.out; have z13 := Z143.out; have z14 := Z145.out; have z15 := Z161.out; have z16 := Z176.out; have z17 := Z190.out; have z18 := Z211.out; have z19 := Z226.out; have z20 := Z248.out; have z21 := Z263.out; have z22 := Z280.out; have z23 := Z295.out; have z24 := Z307.out; have z25 := Z319.out; have z26 := Z332.out; have z27 := Z344.out; have q2 := F342.out.inn _ h3; omega))
      have F351 := Lib.hid (fr.bx_ks F339.out hb (fun h3 => by have z0 := Z4.out; have z1 := Z6.out; have z2 := Z15.out; have z3 := Z30.out; have z4 := Z42.out; have z5 := Z57.out; have z6 := Z64.out; have z7 := Z66.out; have z8 := Z82.out; have z9 := Z90.out; have z10 := Z92.out; have z11 := Z110.out; have z12 := Z132.out; have z13 := Z143.out; have z14 := Z145.out; have z15 := Z161.out; have z16 := Z176.out; have z17 := Z190.out; have z18 := Z211.out; have z19 := Z226.out; have z20 := Z248.out; have z21 := Z263.out; have z22 := Z280.out; have z23 := Z295.out; have z24 := Z307.out; have z25 := Z319.out; have z26 := Z332.out; have z27 := Z344.out; have q2 := F342.out.inn _ h3; omega))
      have F352 := Lib.hid (fr.bx_ks F340.out hb (fun h3 => by have z0 := Z4.out; have z1 := Z6.out; have z2 := Z15.out; have z3 := Z30.out; have z4 := Z42.out; have z5 := Z57.out; have z6 := Z64.out; have z7 := Z66.out; have z8 := Z82.out; have z9 := Z90.out; have z10 := Z92.out; have z11 := Z110.out; have z12 := Z132.out; have z13 := Z143.out; have z14 := Z145.out; have z15 := Z161.out; have z16 := Z176.out; have z17 := Z190.out; have z18 := Z211.out; have z19 := Z226.out; have z20 := Z248.out; have z21 := Z263.out; have z22 := Z280.out; have z23 := Z295.out; have z24 := Z307.out; have z25 := Z319.out; have z26 := Z332.out; have z27 := Z344.out; have q2 := F342.out.inn _ h3; omega))
      clear hb B331 F333 F334 F335 F336 F330 F338 F339 F340
      clear F337
      have ck10_0 : (w341).cell? ⟨w.heap.size, 0, none⟩ = some (.int .i64 f.Start) := F350.out.cell 0
      have ck10_1 : (w341).cell? ⟨w.heap.size, 1, none⟩ = some (.slice Af nf cf) := F350.out.cell 1
      have ck73_0 : (w341).cell? ⟨w47.heap.size, 0, none⟩ = some (.int .i64 x9.Start) := F351.out.cell 0
      have ck73_1 : (w341).cell? ⟨w47.heap.size, 1, none⟩ = some (.slice A48 n49 c50) := F351.out.cell 1
      have ck158_0 : (w341).cell? ⟨w119.heap.size, 0, none⟩ = some (.int .i64 x9.Start) := F352.out.cell 0
      have ck158_1 : (w341).cell? ⟨w119.heap.size, 1, none⟩ = some (.slice A120 n121 c122) := F352.out.cell 1
      go_wp2_with fail
      clear ck10_0 ck10_1 ck73_0 ck73_1 ck158_0 ck158_1
      (with_reducible refine (ux.heldReorderBuffer 1 F349.out.rd (by have h1 := ro.rob_bd x9; have h2 := (show (0:Int) ≤ 1 ∧ (1:Int) ≤ 4294967360 by omega); have h3 := SXA.out; omega) SXA.out).mono ?_)
      rintro e w353 hp
      obtain ⟨rfl, hb⟩ := bx.n_parts Hm1.out hp
      clear hp
      have B354 := Lib.hid (B343.out.trans (hb.mono B343.out.size))
      have Z355 := Lib.hid hb.size
      have F356 := Lib.hid (F345.out.below hb)
      have F357 := Lib.hid (F346.out.below hb)
      have F358 := Lib.hid (F347.out.below hb)
      have F359 := Lib.hid (F348.out.below hb)
      have F360 := Lib.hid (F349.out.below hb)
      have F361 := Lib.hid (F342.out.below hb)
      have F362 := Lib.hid (F350.out.below hb)
      have F363 := Lib.hid (F351.out.below hb)
      have F364 := Lib.hid (F352.out.below hb)
      clear hb B343 F345 F346 F347 F348 F349 F342 F350 F351 F352
      have ck10_0 : (w353).cell? ⟨w.heap.size, 0, none⟩ = some (.int .i64 f.Start) := F362.out.cell 0
      have ck10_1 : (w353).cell? ⟨w.heap.size, 1, none⟩ = some (.slice Af nf cf) := F362.out.cell 1
      have ck73_0 : (w353).cell? ⟨w47.heap.size, 0, none⟩ = some (.int .i64 x9.Start) := F363.out.cell 0
      have ck73_1 : (w353).cell? ⟨w47.heap.size, 1, none⟩ = some (.slice A48 n49 c50) := F363.out.cell 1
      have ck158_0 : (w353).cell? ⟨w119.heap.size, 0, none⟩ = some (.int .i64 x9.Start) := F364.out.cell 0
      have ck158_1 : (w353).cell? ⟨w119.heap.size, 1, none⟩ = some (.slice A120 n121 c122) := F364.out.cell 1
      go_wp2_with fail
      clear ck10_0 ck10_1 ck73_0 ck73_1 ck158_0 ck158_1
      (with_reducible refine (ux.heldByteSS m1 F361.out.rd (by have h1 := ro.rowB_bd l9; have h2 := Km1.out; have h3 := SXB.out; omega) SXB.out).mono ?_)
      rintro e w365 hp
      obtain ⟨rfl, hb⟩ := bx.n_parts Hm2.out hp
      clear hp
      have B366 := Lib.hid (B354.out.trans (hb.mono B354.out.size))
      have Z367 := Lib.hid hb.size
      have F368 := Lib.hid (F356.out.below hb)
      have F369 := Lib.hid (F357.out.below hb)
      have F370 := Lib.hid (F358.out.below hb)
      have F371 := Lib.hid (F359.out.below hb)
      have F372 := Lib.hid (F360.out.below hb)
      have F373 := Lib.hid (F361.out.below hb)
      have F374 := Lib.hid (F362.out.below hb)
      have F375 := Lib.hid (F363.out.below hb)
      have F376 := Lib.hid (F364.out.below hb)
      clear hb B354 F356 F357 F358 F359 F360 F361 F362 F363 F364
      have ck10_0 : (w365).cell? ⟨w.heap.size, 0, none⟩ = some (.int .i64 f.Start) := F374.out.cell 0
      have ck10_1 : (w365).cell? ⟨w.heap.size, 1, none⟩ = some (.slice Af nf cf) := F374.out.cell 1
      have ck73_0 : (w365).cell? ⟨w47.heap.size, 0, none⟩ = some (.int .i64 x9.Start) := F375.out.cell 0
      have ck73_1 : (w365).cell? ⟨w47.heap.size, 1, none⟩ = some (.slice A48 n49 c50) := F375.out.cell 1
      have ck158_0 : (w365).cell? ⟨w119.heap.size, 0, none⟩ = some (.int .i64 x9.Start) := F376.out.cell 0
      have ck158_1 : (w365).cell? ⟨w119.heap.size, 1, none⟩ = some (.slice A120 n121 c122) := F376.out.cell 1
      go_wp2_with fail
      clear ck10_0 ck10_1 ck73_0 ck73_1 ck158_0 ck158_1
      (with_reducible refine (ux.toReorderBuffer F368.out S20.out).mono ?_)
      rintro e w377 hp
      obtain ⟨v382, fp381, rfl, ho, hb⟩ := hp.parts
      clear hp
      obtain ⟨A378, n379, c380, f9, rfl, _, _, _⟩ := ux.rob_o ho
      have F383 := Lib.hid ho
      clear ho
      have B384 := Lib.hid (B366.out.trans (hb.mono B366.out.size))
      have Z385 := Lib.hid hb.size
      have F386 := Lib.hid (F368.out.below hb)
      have F387 := Lib.hid (F369.out.below hb)
      have F388 := Lib.hid (F370.out.below hb)
      have F389 := Lib.hid (F371.out.below hb)
      have F390 := Lib.hid (F372.out.below hb)
      have F391 := Lib.hid (F373.out.below hb)
      have F392 := Lib.hid (F374.out.below hb)
      have F393 := Lib.hid (F375.out.below hb)
      have F394 := Lib.hid (F376.out.below hb)
      clear hb B366 F368 F369 F370 F371 F372 F373 F374 F375 F376
      have ck10_0 : (w377).cell? ⟨w.heap.size, 0, none⟩ = some (.int .i64 f.Start) := F392.out.cell 0
      have ck10_1 : (w377).cell? ⟨w.heap.size, 1, none⟩ = some (.slice Af nf cf) := F392.out.cell 1
      have ck73_0 : (w377).cell? ⟨w47.heap.size, 0, none⟩ = some (.int .i64 x9.Start) := F393.out.cell 0
      have ck73_1 : (w377).cell? ⟨w47.heap.size, 1, none⟩ = some (.slice A48 n49 c50) := F393.out.cell 1
      have ck158_0 : (w377).cell? ⟨w119.heap.size, 0, none⟩ = some (.int .i64 x9.Start) := F394.out.cell 0
      have ck158_1 : (w377).cell? ⟨w119.heap.size, 1, none⟩ = some (.slice A120 n121 c122) := F394.out.cell 1
      go_wp2_with fail
      clear ck10_0 ck10_1 ck73_0 ck73_1 ck158_0 ck158_1
      (with_reducible refine (ux.toByteS F387.out SB.out).mono ?_)
      rintro e w395 hp
      obtain ⟨v400, fp399, rfl, ho, hb⟩ := hp.parts
      clear hp
      obtain ⟨A396, n397, c398, rfl⟩ := ux.bytes_slo ho.1
      have F401 := Lib.hid ho
      clear ho
      have B402 := Lib.hid (B384.out.trans (hb.mono B384.out.size))
      have Z403 := Lib.hid hb.size
      have F404 := Lib.hid (F386.out.below hb)
      have F405 := Lib.hid (F387.out.below hb)
      have F406 := Lib.hid (F388.out.below hb)
      have F407 := Lib.hid (F389.out.below hb)
      have F408 := Lib.hid (F390.out.below hb)
      have F409 := Lib.hid (F391.out.below hb)
      have F410 := Lib.hid (F383.out.below hb)
      have F411 := Lib.hid (F392.out.below hb)
      have F412 := Lib.hid (F393.out.below hb)
      have F413 := Lib.hid (F394.out.below hb)
      clear hb B384 F386 F387 F388 F389 F390 F391 F383 F392 F393 F394
      have ck10_0 : (w395).cell? ⟨w.heap.size, 0, none⟩ = some (.int .i64 f.Start) := F411.out.cell 0
      have ck10_1 : (w395).cell? ⟨w.heap.size, 1, none⟩ = some (.slice Af nf cf) := F411.out.cell 1
      have ck73_0 : (w395).cell? ⟨w47.heap.size, 0, none⟩ = some (.int .i64 x9.Start) := F412.out.cell 0
      have ck73_1 : (w395).cell? ⟨w47.heap.size, 1, none⟩ = some (.slice A48 n49 c50) := F412.out.cell 1
      have ck158_0 : (w395).cell? ⟨w119.heap.size, 0, none⟩ = some (.int .i64 x9.Start) := F413.out.cell 0
      have ck158_1 : (w395).cell? ⟨w119.heap.size, 1, none⟩ = some (.slice A120 n121 c122) := F413.out.cell 1
      go_wp2_with fail
      clear ck10_0 ck10_1 ck73_0 ck73_1 ck158_0 ck158_1
      (with_reducible refine (HX.out ▸ ro.implRc f.Start f.Pending _ _ A378 n379 c380 m zb _ _ A396 n397 c398 _ (ro.rob_rd F410.out.rd) (ro.rob_small (f := f) S21.out (ro.rob_rd F410.out.rd)) (ro.rob_bodies S21.out) (F401.out.rd)).mono ?_)
      rintro e w414 hp
      obtain ⟨A415, n416, c417, fp421, A418, n419, c420, fp422, rfl, ho, hw, hap, hb⟩ := ro.r2_parts hp
      clear hp
      have HAP423 := Lib.hid hap
      have ho2 := ro.rob_oo (f := x9) ho
      clear ho hap
      have F424 := Lib.hid ho2
      clear ho2
      have F425 := Lib.hid hw
      clear hw
      have B426 := Lib.hid (B402.out.trans (hb.mono B402.out.size))
      have Z427 := Lib.hid hb.size
      have F428 := Lib.hid (F404.out.below hb)
      have F429 := Lib.hid (F405.out.below hb)
      have F430 := Lib.hid (F406.out.below hb)
      have F431 := Lib.hid (F407.out.below hb)
      have F432 := Lib.hid (F408.out.below hb)
      have F433 := Lib.hid (F409.out.below hb)
      have F434 := Lib.hid (F410.out.below hb)
      have F435 := Lib.hid (F401.out.below hb)
      have F436 := Lib.hid (F411.out.below hb)
      have F437 := Lib.hid (F412.out.below hb)
      have F438 := Lib.hid (F413.out.below hb)
      clear hb B402 F404 F405 F406 F407 F408 F409 F410 F401 F411 F412 F413
      clear F434
      clear F435
      obtain ⟨V439, hV439⟩ : ∃ x, x = w414.alloc (.cells #[.int .i64 x9.Start, .slice A415 n416 c417] 31) := ⟨_, rfl⟩
      have hb : Below w414.heap.size w414 V439 := by rw [hV439]; exact bx.below_box _ _
      have hz9 : w414.heap.size + 1 ≤ V439.heap.size := by rw [hV439]; simp
      have Z440 := Lib.hid hz9
      clear hz9
      have B441 := Lib.hid (B426.out.trans (hb.mono B426.out.size))
      have Z442 := Lib.hid hb.size
      have F443 := Lib.hid (F428.out.below hb)
      have F444 := Lib.hid (F429.out.below hb)
      have F445 := Lib.hid (F430.out.below hb)
      have F446 := Lib.hid (F431.out.below hb)
      have F447 := Lib.hid (F432.out.below hb)
      have F448 := Lib.hid (F433.out.below hb)
      have F449 := Lib.hid (F424.out.below hb)
      have F450 := Lib.hid (F425.out.below hb)
      have F451 := Lib.hid (F436.out.below hb)
      have F452 := Lib.hid (F437.out.below hb)
      have F453 := Lib.hid (F438.out.below hb)
      clear hb B426 F428 F429 F430 F431 F432 F433 F424 F425 F436 F437 F438
      have X454 := Lib.hid (show bx.Bx 31 V439 w414.heap.size #[.int .i64 x9.Start, .slice A415 n416 c417] by rw [hV439]; exact bx.Bx.made _ _ _)
      have ck10_0 : (w414.alloc (.cells #[.int .i64 x9.Start, .slice A415 n416 c417] 31)).cell? ⟨w.heap.size, 0, none⟩ = some (.int .i64 f.Start) := by rw [← hV439]; exact F451.out.cell 0
      have ck10_1 : (w414.alloc (.cells #[.int .i64 x9.Start, .slice A415 n416 c417] 31)).cell? ⟨w.heap.size, 1, none⟩ = some (.slice Af nf cf) := by rw [← hV439]; exact F451.out.cell 1
      have ck73_0 : (w414.alloc (.cells #[.int .i64 x9.Start, .slice A415 n416 c417] 31)).cell? ⟨w47.heap.size, 0, none⟩ = some (.int .i64 x9.Start) := by rw [← hV439]; exact F452.out.cell 0
      have ck73_1 : (w414.alloc (.cells #[.int .i64 x9.Start, .slice A415 n416 c417] 31)).cell? ⟨w47.heap.size, 1, none⟩ = some (.slice A48 n49 c50) := by rw [← hV439]; exact F452.out.cell 1
      have ck158_0 : (w414.alloc (.cells #[.int .i64 x9.Start, .slice A415 n416 c417] 31)).cell? ⟨w119.heap.size, 0, none⟩ = some (.int .i64 x9.Start) := by rw [← hV439]; exact F453.out.cell 0
      have ck158_1 : (w414.alloc (.cells #[.int .i64 x9.Start, .slice A415 n416 c417] 31)).cell? ⟨w119.heap.size, 1, none⟩ = some (.slice A120 n121 c122) := by rw [← hV439]; exact F453.out.cell 1
      have ck455_0 : (w414.alloc (.cells #[.int .i64 x9.Start, .slice A415 n416 c417] 31)).cell? ⟨w414.heap.size, 0, none⟩ = some (.int .i64 x9.Start) := by rw [← hV439]; exact X454.out.cell 0
      have ck455_1 : (w414.alloc (.cells #[.int .i64 x9.Start, .slice A415 n416 c417] 31)).cell? ⟨w414.heap.size, 1, none⟩ = some (.slice A415 n416 c417) := by rw [← hV439]; exact X454.out.cell 1
      go_wp2_with fail
      rw [← hV439]
      clear hV439 ck10_0 ck10_1 ck73_0 ck73_1 ck158_0 ck158_1 ck455_0 ck455_1
      (with_reducible refine (ux.eqReorderBuffer F449.out.rd F445.out).mono ?_)
      rintro e w456 hp
      obtain ⟨rfl, hb⟩ := bx.b_parts rfl hp
      clear hp
      have B457 := Lib.hid (B441.out.trans (hb.mono B441.out.size))
      have Z458 := Lib.hid hb.size
      have F459 := Lib.hid (F443.out.below hb)
      have F460 := Lib.hid (F444.out.below hb)
      have F461 := Lib.hid (F445.out.below hb)
      have F462 := Lib.hid (F446.out.below hb)
      have F463 := Lib.hid (F447.out.below hb)
      have F464 := Lib.hid (F448.out.below hb)
      have F465 := Lib.hid (F449.out.below hb)
      have F466 := Lib.hid (F450.out.below hb)
      have F467 := Lib.hid (F451.out.below hb)
      have F468 := Lib.hid (F452.out.below hb)
      have F469 := Lib.hid (F453.out.below hb)
      have F470 := Lib.hid (X454.out.below hb)
      clear hb B441 F443 F444 F445 F446 F447 F448 F449 F450 F451 F452 F453 X454
      have ck10_0 : (w456).cell? ⟨w.heap.size, 0, none⟩ = some (.int .i64 f.Start) := F467.out.cell 0
      have ck10_1 : (w456).cell? ⟨w.heap.size, 1, none⟩ = some (.slice Af nf cf) := F467.out.cell 1
      have ck73_0 : (w456).cell? ⟨w47.heap.size, 0, none⟩ = some (.int .i64 x9.Start) := F468.out.cell 0
      have ck73_1 : (w456).cell? ⟨w47.heap.size, 1, none⟩ = some (.slice A48 n49 c50) := F468.out.cell 1
      have ck158_0 : (w456).cell? ⟨w119.heap.size, 0, none⟩ = some (.int .i64 x9.Start) := F469.out.cell 0
      have ck158_1 : (w456).cell? ⟨w119.heap.size, 1, none⟩ = some (.slice A120 n121 c122) := F469.out.cell 1
      have ck455_0 : (w456).cell? ⟨w414.heap.size, 0, none⟩ = some (.int .i64 x9.Start) := F470.out.cell 0
      have ck455_1 : (w456).cell? ⟨w414.heap.size, 1, none⟩ = some (.slice A415 n416 c417) := F470.out.cell 1
      go_wp2_with fail
      clear ck10_0 ck10_1 ck73_0 ck73_1 ck158_0 ck158_1 ck455_0 ck455_1
      (with_reducible refine (ux.eqByteSS F466.out.rd F462.out).mono ?_)
      rintro e w471 hp
      obtain ⟨rfl, hb⟩ := bx.b_parts rfl hp
      clear hp
      have B472 := Lib.hid (B457.out.trans (hb.mono B457.out.size))
      have Z473 := Lib.hid hb.size
      have F474 := Lib.hid (F459.out.below hb)
      have F475 := Lib.hid (F460.out.below hb)
      have F476 := Lib.hid (F461.out.below hb)
      have F477 := Lib.hid (F462.out.below hb)
      have F478 := Lib.hid (F463.out.below hb)
      have F479 := Lib.hid (F464.out.below hb)
      have F480 := Lib.hid (F465.out.below hb)
      have F481 := Lib.hid (F466.out.below hb)
      have F482 := Lib.hid (F467.out.below hb)
      have F483 := Lib.hid (F468.out.below hb)
      have F484 := Lib.hid (F469.out.below hb)
      have F485 := Lib.hid (F470.out.below hb)
      clear hb B457 F459 F460 F461 F462 F463 F464 F465 F466 F467 F468 F469 F470
      clear F485
      clear F483
      clear F480
      clear F481
      clear F476
      clear F477
      have ck10_0 : (w471).cell? ⟨w.heap.size, 0, none⟩ = some (.int .i64 f.Start) := F482.out.cell 0
      have ck10_1 : (w471).cell? ⟨w.heap.size, 1, none⟩ = some (.slice Af nf cf) := F482.out.cell 1
      have ck158_0 : (w471).cell? ⟨w119.heap.size, 0, none⟩ = some (.int .i64 x9.Start) := F484.out.cell 0
      have ck158_1 : (w471).cell? ⟨w119.heap.size, 1, none⟩ = some (.slice A120 n121 c122) := F484.out.cell 1
      go_wp2_with fail
      clear ck10_0 ck10_1 ck158_0 ck158_1
      (with_reducible refine (ux.heldReorderBuffer 1 F478.out.rd (by have h1 := ro.rob_bd x9; have h2 := (show (0:Int) ≤ 1 ∧ (1:Int) ≤ 4294967360 by omega); have h3 := SXA.out; omega) SXA.out).mono ?_)
      rintro e w486 hp
      obtain ⟨rfl, hb⟩ := bx.n_parts Hm1.out hp
      clear hp
      have B487 := Lib.hid (B472.out.trans (hb.mono B472.out.size))
      have Z488 := Lib.hid hb.size
      have F489 := Lib.hid (F474.out.below hb)
      have F490 := Lib.hid (F475.out.below hb)
      have F491 := Lib.hid (F478.out.below hb)
      have F492 := Lib.hid (F479.out.below hb)
      have F493 := Lib.hid (F482.out.below hb)
      have F494 := Lib.hid (F484.out.below hb)
      clear hb B472 F474 F475 F478 F479 F482 F484
      have ck10_0 : (w486).cell? ⟨w.heap.size, 0, none⟩ = some (.int .i64 f.Start) := F493.out.cell 0
      have ck10_1 : (w486).cell? ⟨w.heap.size, 1, none⟩ = some (.slice Af nf cf) := F493.out.cell 1
      have ck158_0 : (w486).cell? ⟨w119.heap.size, 0, none⟩ = some (.int .i64 x9.Start) := F494.out.cell 0
      have ck158_1 : (w486).cell? ⟨w119.heap.size, 1, none⟩ = some (.slice A120 n121 c122) := F494.out.cell 1
      go_wp2_with fail
      clear ck10_0 ck10_1 ck158_0 ck158_1
      (with_reducible refine (ux.heldByteSS m1 F492.out.rd (by have h1 := ro.rowB_bd l9; have h2 := Km1.out; have h3 := SXB.out; omega) SXB.out).mono ?_)
      rintro e w495 hp
      obtain ⟨rfl, hb⟩ := bx.n_parts Hm2.out hp
      clear hp
      have B496 := Lib.hid (B487.out.trans (hb.mono B487.out.size))
      have Z497 := Lib.hid hb.size
      have F498 := Lib.hid (F489.out.below hb)
      have F499 := Lib.hid (F490.out.below hb)
      have F500 := Lib.hid (F491.out.below hb)
      have F501 := Lib.hid (F492.out.below hb)
      have F502 := Lib.hid (F493.out.below hb)
      have F503 := Lib.hid (F494.out.below hb)
      clear hb B487 F489 F490 F491 F492 F493 F494
      have ck10_0 : (w495).cell? ⟨w.heap.size, 0, none⟩ = some (.int .i64 f.Start) := F502.out.cell 0
      have ck10_1 : (w495).cell? ⟨w.heap.size, 1, none⟩ = some (.slice Af nf cf) := F502.out.cell 1
      have ck158_0 : (w495).cell? ⟨w119.heap.size, 0, none⟩ = some (.int .i64 x9.Start) := F503.out.cell 0
      have ck158_1 : (w495).cell? ⟨w119.heap.size, 1, none⟩ = some (.slice A120 n121 c122) := F503.out.cell 1
      go_wp2_with fail
      clear ck10_0 ck10_1 ck158_0 ck158_1
      go_ret
      exact ⟨rfl, B496.out⟩
theorem walkA (f0 : Int) (Af : Option Addr) (nf cf : Nat) (zf : List ux.Nf) (m : Int) (Ab : Option Addr) (nb cb : Nat) (zb : List Int) (w : World) (hf : opm.Nfq w 0 w.heap.size Af nf cf zf) (hb : kit.IsRow .u8 w Ab nb cb zb)  :
    Calls Try.prog 7 #[.agg #[.int .i64 f0, .slice Af nf cf], .int .i64 m, .slice Ab nb cb] w fun e w' => e = .returned (.bool true) ∧ Below w.heap.size w w' := by
  obtain ⟨y, hr⟩ := sl.Rd.of_row hb
  exact walk ⟨f0, zf⟩ Af nf cf m Ab nb cb y w hf hr
end Go.Proofs.Ytmmhleobgpgliaa.xExactReceiveNumbered
