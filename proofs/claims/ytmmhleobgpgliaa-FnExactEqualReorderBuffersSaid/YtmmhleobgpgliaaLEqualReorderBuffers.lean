/- The walk of FnExactEqualReorderBuffers. Condition: none. -/
import Derived.Test.YtmmhleobgpgliaaRsz
import Derived.Test.YtmmhleobgpgliaaOpf
namespace Go.Proofs.Ytmmhleobgpgliaa.xExactEqualReorderBuffers
open Go.RowKit sl harn bx
set_option linter.unusedVariables false
set_option maxRecDepth 100000 in
set_option maxHeartbeats 4000000 in
theorem walk (f : ux.Rob) (Af : Option Addr) (nf cf : Nat) (h : ux.Rob) (Ah : Option Addr) (nh ch : Nat)  (w : World) (hf : ux.RR ux.rowNf w 0 w.heap.size (.slice Af nf cf) f.Pending) (hh : ux.RR ux.rowNf w 0 w.heap.size (.slice Ah nh ch) h.Pending)  :
    Calls Try.prog 11 #[ux.robV f (.slice Af nf cf), ux.robV h (.slice Ah nh ch)] w fun e w' => e = .returned (.bool true) ∧ Below w.heap.size w w' := by
  have B1 := Lib.hid (Below.refl w.heap.size w)
  have F2 := Lib.hid (ro.rob_of (f := f) hf)
  have F3 := Lib.hid (ro.rob_of (f := h) hh)
  clear hf hh
  go_enter Try.func11, Try.ntmps11
  go_upto_region 1 with fail
  obtain ⟨we, hW⟩ : ∃ w0, (w.alloc (.cells #[.int .i64 f.Start, .slice Af nf cf] 55)).alloc (.cells #[.int .i64 h.Start, .slice Ah nh ch] 55) = w0 := ⟨_, rfl⟩
  rw [hW]
  have hb : Below w.heap.size w we := by rw [← hW]; exact ((Below.refl _ _).alloc (by simp <;> omega) _).alloc (by simp <;> omega) _
  have hz9 : w.heap.size + 2 ≤ we.heap.size := by rw [← hW]; simp
  have Z4 := Lib.hid hz9
  clear hz9
  have B5 := Lib.hid (B1.out.trans (hb.mono B1.out.size))
  have Z6 := Lib.hid hb.size
  have F7 := Lib.hid (F2.out.below hb)
  have F8 := Lib.hid (F3.out.below hb)
  clear hb B1 F2 F3
  have X9 := Lib.hid (show bx.Bx 55 we (w.heap.size) #[.int .i64 f.Start, .slice Af nf cf] by
      rw [← hW]
      have hh := bx.Bx.made 55 w #[.int .i64 f.Start, .slice Af nf cf]
      exact (hh.below (bx.below_box _ _)))
  have X11 := Lib.hid (show bx.Bx 55 we (w.heap.size + 1) #[.int .i64 h.Start, .slice Ah nh ch] by
      rw [← hW]
      have hh : bx.Bx 55 ((w.alloc (.cells #[.int .i64 f.Start, .slice Af nf cf] 55)).alloc (.cells #[.int .i64 h.Start, .slice Ah nh ch] 55)) (w.heap.size + 1) #[.int .i64 h.Start, .slice Ah nh ch] := by have hh := bx.Bx.made 55 (w.alloc (.cells #[.int .i64 f.Start, .slice Af nf cf] 55)) #[.int .i64 h.Start, .slice Ah nh ch]; simpa using hh
      exact hh)
  clear hW
  have ck10_0 : (we).cell? ⟨w.heap.size, 0, none⟩ = some (.int .i64 f.Start) := X9.out.cell 0
  have ck10_1 : (we).cell? ⟨w.heap.size, 1, none⟩ = some (.slice Af nf cf) := X9.out.cell 1
  have ck12_0 : (we).cell? ⟨w.heap.size + 1, 0, none⟩ = some (.int .i64 h.Start) := X11.out.cell 0
  have ck12_1 : (we).cell? ⟨w.heap.size + 1, 1, none⟩ = some (.slice Ah nh ch) := X11.out.cell 1
  go_wp2_with fail
  clear ck10_0 ck10_1 ck12_0 ck12_1
  (with_reducible refine (ux.szReorderBuffer (1048576) (by omega) F7.out).mono ?_)
  rintro e w13 hp
  obtain ⟨r14, rfl, H15, hb⟩ := hp.parts
  have B16 := Lib.hid (B5.out.trans (hb.mono B5.out.size))
  have Z17 := Lib.hid hb.size
  have F18 := Lib.hid (F7.out.below hb)
  have F19 := Lib.hid (F8.out.below hb)
  have F20 := Lib.hid (X9.out.below hb)
  have F21 := Lib.hid (X11.out.below hb)
  clear hb B5 F7 F8 X9 X11
  rcases H15 with ⟨hr, _⟩ | ⟨hr, ht⟩
  · subst hr
    go_wp2_with fail
    go_ret
    exact ⟨rfl, B16.out⟩
  · have Q22 := Lib.hid (show 0 ≤ r14 ∧ r14 ≤ 1048576 by have := (by omega); omega)
    have S23 := Lib.hid (show ux.rob.sz f ≤ 67108864 by have := (by omega); omega)
    have S24 := Lib.hid (show ux.rob.sz f ≤ 1048576 by have := (by omega); omega)
    have ngr14 : ¬ r14 < 0 := by have := Q22.out; omega
    clear hr ht
    have ck10_0 : (w13).cell? ⟨w.heap.size, 0, none⟩ = some (.int .i64 f.Start) := F20.out.cell 0
    have ck10_1 : (w13).cell? ⟨w.heap.size, 1, none⟩ = some (.slice Af nf cf) := F20.out.cell 1
    have ck12_0 : (w13).cell? ⟨w.heap.size + 1, 0, none⟩ = some (.int .i64 h.Start) := F21.out.cell 0
    have ck12_1 : (w13).cell? ⟨w.heap.size + 1, 1, none⟩ = some (.slice Ah nh ch) := F21.out.cell 1
    go_wp2_with fail
    clear ck10_0 ck10_1 ck12_0 ck12_1
    (with_reducible refine (ux.szReorderBuffer (r14) (Q22.out) F19.out).mono ?_)
    rintro e w25 hp
    obtain ⟨r26, rfl, H27, hb⟩ := hp.parts
    have B28 := Lib.hid (B16.out.trans (hb.mono B16.out.size))
    have Z29 := Lib.hid hb.size
    have F30 := Lib.hid (F18.out.below hb)
    have F31 := Lib.hid (F19.out.below hb)
    have F32 := Lib.hid (F20.out.below hb)
    have F33 := Lib.hid (F21.out.below hb)
    clear hb B16 F18 F19 F20 F21
    rcases H27 with ⟨hr, _⟩ | ⟨hr, ht⟩
    · subst hr
      go_wp2_with fail
      go_ret
      exact ⟨rfl, B28.out⟩
    · have Q34 := Lib.hid (show 0 ≤ r26 ∧ r26 ≤ 1048576 by have := (Q22.out); omega)
      have S35 := Lib.hid (show ux.rob.sz h ≤ 67108864 by have := (Q22.out); omega)
      have S36 := Lib.hid (show ux.rob.sz h ≤ 1048576 by have := (Q22.out); omega)
      have ngr26 : ¬ r26 < 0 := by have := Q34.out; omega
      clear hr ht
      obtain ⟨vb, hvb⟩ : ∃ vb, decide ((⟨f.Start, f.Pending⟩ : ux.Rob) = ⟨h.Start, h.Pending⟩) = vb := ⟨_, rfl⟩
      have VB := Lib.hid hvb
      clear hvb
      have ck10_0 : (w25).cell? ⟨w.heap.size, 0, none⟩ = some (.int .i64 f.Start) := F32.out.cell 0
      have ck10_1 : (w25).cell? ⟨w.heap.size, 1, none⟩ = some (.slice Af nf cf) := F32.out.cell 1
      have ck12_0 : (w25).cell? ⟨w.heap.size + 1, 0, none⟩ = some (.int .i64 h.Start) := F33.out.cell 0
      have ck12_1 : (w25).cell? ⟨w.heap.size + 1, 1, none⟩ = some (.slice Ah nh ch) := F33.out.cell 1
      go_wp2_with fail
      clear ck10_0 ck10_1 ck12_0 ck12_1
      have hb : Below w25.heap.size w25 w25.drew := own.below_drew (Below.refl _ _)
      have B37 := Lib.hid (B28.out.trans (hb.mono B28.out.size))
      have Z38 := Lib.hid hb.size
      have F39 := Lib.hid (F30.out.below hb)
      have F40 := Lib.hid (F31.out.below hb)
      have F41 := Lib.hid (F32.out.below hb)
      have F42 := Lib.hid (F33.out.below hb)
      clear hb B28 F30 F31 F32 F33
      have cak10_0 : (w25.drew).cell? ⟨w.heap.size, 0, none⟩ = some (.int .i64 f.Start) := F41.out.cell 0
      have cak10_1 : (w25.drew).cell? ⟨w.heap.size, 1, none⟩ = some (.slice Af nf cf) := F41.out.cell 1
      have cak12_0 : (w25.drew).cell? ⟨w.heap.size + 1, 0, none⟩ = some (.int .i64 h.Start) := F42.out.cell 0
      have cak12_1 : (w25.drew).cell? ⟨w.heap.size + 1, 1, none⟩ = some (.slice Ah nh ch) := F42.out.cell 1
      go_region_held3 (fun w' => w'.cell? ⟨w.heap.size, 0, none⟩ = some (.int .i64 f.Start) ∧ w'.cell? ⟨w.heap.size, 1, none⟩ = some (.slice Af nf cf) ∧ w'.cell? ⟨w.heap.size + 1, 0, none⟩ = some (.int .i64 h.Start) ∧ w'.cell? ⟨w.heap.size + 1, 1, none⟩ = some (.slice Ah nh ch)) (first | (with_reducible exact ⟨cak10_0, cak10_1, cak12_0, cak12_1⟩) | (with_reducible exact ⟨cbk10_0, cbk10_1, cbk12_0, cbk12_1⟩) | (with_reducible exact ⟨cdk10_0, cdk10_1, cdk12_0, cdk12_1⟩) | (with_reducible exact ⟨cek10_0, cek10_1, cek12_0, cek12_1⟩))
        (first
        | (go_at_call 36; (with_reducible refine (ux.toReorderBuffer F39.out S23.out).mono ?_); rintro e w43 hp; obtain ⟨v48, fp47, rfl, ho, hb⟩ := hp.parts; clear hp; obtain ⟨A44, n45, c46, f9, rfl, _, _, _⟩ := ux.rob_o ho; have F49 := Lib.hid ho; clear ho; have B50 := Lib.hid (B37.out.trans (hb.mono B37.out.size)); have Z51 := Lib.hid hb.size; have F52 := Lib.hid (F39.out.below hb); have F53 := Lib.hid (F40.out.below hb); have F54 := Lib.hid (F41.out.below hb); have F55 := Lib.hid (F42.out.below hb); clear hb B37 F39 F40 F41 F42; have cbk10_0 : (w43).cell? ⟨w.heap.size, 0, none⟩ = some (.int .i64 f.Start) := F54.out.cell 0; have cbk10_1 : (w43).cell? ⟨w.heap.size, 1, none⟩ = some (.slice Af nf cf) := F54.out.cell 1; have cbk12_0 : (w43).cell? ⟨w.heap.size + 1, 0, none⟩ = some (.int .i64 h.Start) := F55.out.cell 0; have cbk12_1 : (w43).cell? ⟨w.heap.size + 1, 1, none⟩ = some (.slice Ah nh ch) := F55.out.cell 1)
        | (go_at_call 36; (with_reducible refine (ux.toReorderBuffer F53.out S35.out).mono ?_); rintro e w56 hp; obtain ⟨v61, fp60, rfl, ho, hb⟩ := hp.parts; clear hp; obtain ⟨A57, n58, c59, f9, rfl, _, _, _⟩ := ux.rob_o ho; have F62 := Lib.hid ho; clear ho; have B63 := Lib.hid (B50.out.trans (hb.mono B50.out.size)); have Z64 := Lib.hid hb.size; have F65 := Lib.hid (F52.out.below hb); have F66 := Lib.hid (F53.out.below hb); have F67 := Lib.hid (F49.out.below hb); have F68 := Lib.hid (F54.out.below hb); have F69 := Lib.hid (F55.out.below hb); clear hb B50 F52 F53 F49 F54 F55; have cdk10_0 : (w56).cell? ⟨w.heap.size, 0, none⟩ = some (.int .i64 f.Start) := F68.out.cell 0; have cdk10_1 : (w56).cell? ⟨w.heap.size, 1, none⟩ = some (.slice Af nf cf) := F68.out.cell 1; have cdk12_0 : (w56).cell? ⟨w.heap.size + 1, 0, none⟩ = some (.int .i64 h.Start) := F69.out.cell 0; have cdk12_1 : (w56).cell? ⟨w.heap.size + 1, 1, none⟩ = some (.slice Ah nh ch) := F69.out.cell 1)
        | (go_at_call 51; (with_reducible refine (ro.specEq f.Start h.Start f.Pending h.Pending A44 n45 c46 _ _ A57 n58 c59 _ _ _ (ro.rob_rd F67.out.rd) (ro.rob_rd F62.out.rd)).mono ?_); rintro e w70 hp; obtain ⟨rfl, hb⟩ := bx.b_parts VB.out hp; clear hp; have B71 := Lib.hid (B63.out.trans (hb.mono B63.out.size)); have Z72 := Lib.hid hb.size; have F73 := Lib.hid (F65.out.below hb); have F74 := Lib.hid (F66.out.below hb); have F75 := Lib.hid (F67.out.below hb); have F76 := Lib.hid (F62.out.below hb); have F77 := Lib.hid (F68.out.below hb); have F78 := Lib.hid (F69.out.below hb); clear hb B63 F65 F66 F67 F62 F68 F69; have cek10_0 : (w70).cell? ⟨w.heap.size, 0, none⟩ = some (.int .i64 f.Start) := F77.out.cell 0; have cek10_1 : (w70).cell? ⟨w.heap.size, 1, none⟩ = some (.slice Af nf cf) := F77.out.cell 1; have cek12_0 : (w70).cell? ⟨w.heap.size + 1, 0, none⟩ = some (.int .i64 h.Start) := F78.out.cell 0; have cek12_1 : (w70).cell? ⟨w.heap.size + 1, 1, none⟩ = some (.slice Ah nh ch) := F78.out.cell 1))
      clear cak10_0 cak10_1 cak12_0 cak12_1 cbk10_0 cbk10_1 cbk12_0 cbk12_1 cdk10_0 cdk10_1 cdk12_0 cdk12_1 cek10_0 cek10_1 cek12_0 cek12_1
      clear F75
      clear F76
      have ck10_0 : (w70).cell? ⟨w.heap.size, 0, none⟩ = some (.int .i64 f.Start) := F77.out.cell 0
      have ck10_1 : (w70).cell? ⟨w.heap.size, 1, none⟩ = some (.slice Af nf cf) := F77.out.cell 1
      have ck12_0 : (w70).cell? ⟨w.heap.size + 1, 0, none⟩ = some (.int .i64 h.Start) := F78.out.cell 0
      have ck12_1 : (w70).cell? ⟨w.heap.size + 1, 1, none⟩ = some (.slice Ah nh ch) := F78.out.cell 1
      go_wp2_with fail
      clear ck10_0 ck10_1 ck12_0 ck12_1
      (with_reducible refine (ux.toReorderBuffer F73.out S23.out).mono ?_)
      rintro e w79 hp
      obtain ⟨v84, fp83, rfl, ho, hb⟩ := hp.parts
      clear hp
      obtain ⟨A80, n81, c82, f9, rfl, _, _, _⟩ := ux.rob_o ho
      have F85 := Lib.hid ho
      clear ho
      have B86 := Lib.hid (B71.out.trans (hb.mono B71.out.size))
      have Z87 := Lib.hid hb.size
      have F88 := Lib.hid (F73.out.below hb)
      have F89 := Lib.hid (F74.out.below hb)
      have F90 := Lib.hid (F77.out.below hb)
      have F91 := Lib.hid (F78.out.below hb)
      clear hb B71 F73 F74 F77 F78
      obtain ⟨V92, hV92⟩ : ∃ x, x = w79.alloc (.cells #[.int .i64 f.Start, .slice A80 n81 c82] 31) := ⟨_, rfl⟩
      have hb : Below w79.heap.size w79 V92 := by rw [hV92]; exact bx.below_box _ _
      have hz9 : w79.heap.size + 1 ≤ V92.heap.size := by rw [hV92]; simp
      have Z93 := Lib.hid hz9
      clear hz9
      have B94 := Lib.hid (B86.out.trans (hb.mono B86.out.size))
      have Z95 := Lib.hid hb.size
      have F96 := Lib.hid (F88.out.below hb)
      have F97 := Lib.hid (F89.out.below hb)
      have F98 := Lib.hid (F85.out.below hb)
      have F99 := Lib.hid (F90.out.below hb)
      have F100 := Lib.hid (F91.out.below hb)
      clear hb B86 F88 F89 F85 F90 F91
      have X101 := Lib.hid (show bx.Bx 31 V92 w79.heap.size #[.int .i64 f.Start, .slice A80 n81 c82] by rw [hV92]; exact bx.Bx.made _ _ _)
      have ck10_0 : (w79.alloc (.cells #[.int .i64 f.Start, .slice A80 n81 c82] 31)).cell? ⟨w.heap.size, 0, none⟩ = some (.int .i64 f.Start) := by rw [← hV92]; exact F99.out.cell 0
      have ck10_1 : (w79.alloc (.cells #[.int .i64 f.Start, .slice A80 n81 c82] 31)).cell? ⟨w.heap.size, 1, none⟩ = some (.slice Af nf cf) := by rw [← hV92]; exact F99.out.cell 1
      have ck12_0 : (w79.alloc (.cells #[.int .i64 f.Start, .slice A80 n81 c82] 31)).cell? ⟨w.heap.size + 1, 0, none⟩ = some (.int .i64 h.Start) := by rw [← hV92]; exact F100.out.cell 0
      have ck12_1 : (w79.alloc (.cells #[.int .i64 f.Start, .slice A80 n81 c82] 31)).cell? ⟨w.heap.size + 1, 1, none⟩ = some (.slice Ah nh ch) := by rw [← hV92]; exact F100.out.cell 1
      have ck102_0 : (w79.alloc (.cells #[.int .i64 f.Start, .slice A80 n81 c82] 31)).cell? ⟨w79.heap.size, 0, none⟩ = some (.int .i64 f.Start) := by rw [← hV92]; exact X101.out.cell 0
      have ck102_1 : (w79.alloc (.cells #[.int .i64 f.Start, .slice A80 n81 c82] 31)).cell? ⟨w79.heap.size, 1, none⟩ = some (.slice A80 n81 c82) := by rw [← hV92]; exact X101.out.cell 1
      go_wp2_with fail
      rw [← hV92]
      clear hV92 ck10_0 ck10_1 ck12_0 ck12_1 ck102_0 ck102_1
      (with_reducible refine (ux.toReorderBuffer F97.out S35.out).mono ?_)
      rintro e w103 hp
      obtain ⟨v108, fp107, rfl, ho, hb⟩ := hp.parts
      clear hp
      obtain ⟨A104, n105, c106, f9, rfl, _, _, _⟩ := ux.rob_o ho
      have F109 := Lib.hid ho
      clear ho
      have B110 := Lib.hid (B94.out.trans (hb.mono B94.out.size))
      have Z111 := Lib.hid hb.size
      have F112 := Lib.hid (F96.out.below hb)
      have F113 := Lib.hid (F97.out.below hb)
      have F114 := Lib.hid (F98.out.below hb)
      have F115 := Lib.hid (F99.out.below hb)
      have F116 := Lib.hid (F100.out.below hb)
      have F117 := Lib.hid (X101.out.below hb)
      clear hb B94 F96 F97 F98 F99 F100 X101
      obtain ⟨V118, hV118⟩ : ∃ x, x = w103.alloc (.cells #[.int .i64 h.Start, .slice A104 n105 c106] 31) := ⟨_, rfl⟩
      have hb : Below w103.heap.size w103 V118 := by rw [hV118]; exact bx.below_box _ _
      have hz9 : w103.heap.size + 1 ≤ V118.heap.size := by rw [hV118]; simp
      have Z119 := Lib.hid hz9
      clear hz9
      have B120 := Lib.hid (B110.out.trans (hb.mono B110.out.size))
      have Z121 := Lib.hid hb.size
      have F122 := Lib.hid (F112.out.below hb)
      have F123 := Lib.hid (F113.out.below hb)
      have F124 := Lib.hid (F114.out.below hb)
      have F125 := Lib.hid (F109.out.below hb)
      have F126 := Lib.hid (F115.out.below hb)
      have F127 := Lib.hid (F116.out.below hb)
      have F128 := Lib.hid (F117.out.below hb)
      clear hb B110 F112 F113 F114 F109 F115 F116 F117
      have X129 := Lib.hid (show bx.Bx 31 V118 w103.heap.size #[.int .i64 h.Start, .slice A104 n105 c106] by rw [hV118]; exact bx.Bx.made _ _ _)
      have ck10_0 : (w103.alloc (.cells #[.int .i64 h.Start, .slice A104 n105 c106] 31)).cell? ⟨w.heap.size, 0, none⟩ = some (.int .i64 f.Start) := by rw [← hV118]; exact F126.out.cell 0
      have ck10_1 : (w103.alloc (.cells #[.int .i64 h.Start, .slice A104 n105 c106] 31)).cell? ⟨w.heap.size, 1, none⟩ = some (.slice Af nf cf) := by rw [← hV118]; exact F126.out.cell 1
      have ck12_0 : (w103.alloc (.cells #[.int .i64 h.Start, .slice A104 n105 c106] 31)).cell? ⟨w.heap.size + 1, 0, none⟩ = some (.int .i64 h.Start) := by rw [← hV118]; exact F127.out.cell 0
      have ck12_1 : (w103.alloc (.cells #[.int .i64 h.Start, .slice A104 n105 c106] 31)).cell? ⟨w.heap.size + 1, 1, none⟩ = some (.slice Ah nh ch) := by rw [← hV118]; exact F127.out.cell 1
      have ck102_0 : (w103.alloc (.cells #[.int .i64 h.Start, .slice A104 n105 c106] 31)).cell? ⟨w79.heap.size, 0, none⟩ = some (.int .i64 f.Start) := by rw [← hV118]; exact F128.out.cell 0
      have ck102_1 : (w103.alloc (.cells #[.int .i64 h.Start, .slice A104 n105 c106] 31)).cell? ⟨w79.heap.size, 1, none⟩ = some (.slice A80 n81 c82) := by rw [← hV118]; exact F128.out.cell 1
      have ck130_0 : (w103.alloc (.cells #[.int .i64 h.Start, .slice A104 n105 c106] 31)).cell? ⟨w103.heap.size, 0, none⟩ = some (.int .i64 h.Start) := by rw [← hV118]; exact X129.out.cell 0
      have ck130_1 : (w103.alloc (.cells #[.int .i64 h.Start, .slice A104 n105 c106] 31)).cell? ⟨w103.heap.size, 1, none⟩ = some (.slice A104 n105 c106) := by rw [← hV118]; exact X129.out.cell 1
      go_wp2_with fail
      rw [← hV118]
      clear hV118 ck10_0 ck10_1 ck12_0 ck12_1 ck102_0 ck102_1 ck130_0 ck130_1
      (with_reducible refine (ro.implEq f.Start h.Start f.Pending h.Pending A80 n81 c82 _ _ A104 n105 c106 _ _ _ (ro.rob_rd F124.out.rd) (ro.rob_rd F125.out.rd)).mono ?_)
      rintro e w131 hp
      obtain ⟨rfl, hb⟩ := bx.b_parts VB.out hp
      clear hp
      have B132 := Lib.hid (B120.out.trans (hb.mono B120.out.size))
      have Z133 := Lib.hid hb.size
      have F134 := Lib.hid (F122.out.below hb)
      have F135 := Lib.hid (F123.out.below hb)
      have F136 := Lib.hid (F124.out.below hb)
      have F137 := Lib.hid (F125.out.below hb)
      have F138 := Lib.hid (F126.out.below hb)
      have F139 := Lib.hid (F127.out.below hb)
      have F140 := Lib.hid (F128.out.below hb)
      have F141 := Lib.hid (X129.out.below hb)
      clear hb B120 F122 F123 F124 F125 F126 F127 F128 X129
      have ck10_0 : (w131).cell? ⟨w.heap.size, 0, none⟩ = some (.int .i64 f.Start) := F138.out.cell 0
      have ck10_1 : (w131).cell? ⟨w.heap.size, 1, none⟩ = some (.slice Af nf cf) := F138.out.cell 1
      have ck12_0 : (w131).cell? ⟨w.heap.size + 1, 0, none⟩ = some (.int .i64 h.Start) := F139.out.cell 0
      have ck12_1 : (w131).cell? ⟨w.heap.size + 1, 1, none⟩ = some (.slice Ah nh ch) := F139.out.cell 1
      have ck102_0 : (w131).cell? ⟨w79.heap.size, 0, none⟩ = some (.int .i64 f.Start) := F140.out.cell 0
      have ck102_1 : (w131).cell? ⟨w79.heap.size, 1, none⟩ = some (.slice A80 n81 c82) := F140.out.cell 1
      have ck130_0 : (w131).cell? ⟨w103.heap.size, 0, none⟩ = some (.int .i64 h.Start) := F141.out.cell 0
      have ck130_1 : (w131).cell? ⟨w103.heap.size, 1, none⟩ = some (.slice A104 n105 c106) := F141.out.cell 1
      go_wp2_with fail
      clear ck10_0 ck10_1 ck12_0 ck12_1 ck102_0 ck102_1 ck130_0 ck130_1
      have hb : Below w131.heap.size w131 w131.drew := own.below_drew (Below.refl _ _)
      have B142 := Lib.hid (B132.out.trans (hb.mono B132.out.size))
      have Z143 := Lib.hid hb.size
      have F144 := Lib.hid (F134.out.below hb)
      have F145 := Lib.hid (F135.out.below hb)
      have F146 := Lib.hid (F136.out.below hb)
      have F147 := Lib.hid (F137.out.below hb)
      have F148 := Lib.hid (F138.out.below hb)
      have F149 := Lib.hid (F139.out.below hb)
      have F150 := Lib.hid (F140.out.below hb)
      have F151 := Lib.hid (F141.out.below hb)
      clear hb B132 F134 F135 F136 F137 F138 F139 F140 F141
      have cak102_0 : (w131.drew).cell? ⟨w79.heap.size, 0, none⟩ = some (.int .i64 f.Start) := F150.out.cell 0
      have cak102_1 : (w131.drew).cell? ⟨w79.heap.size, 1, none⟩ = some (.slice A80 n81 c82) := F150.out.cell 1
      have cak10_0 : (w131.drew).cell? ⟨w.heap.size, 0, none⟩ = some (.int .i64 f.Start) := F148.out.cell 0
      have cak10_1 : (w131.drew).cell? ⟨w.heap.size, 1, none⟩ = some (.slice Af nf cf) := F148.out.cell 1
      go_region_held3 (fun w' => w'.cell? ⟨w79.heap.size, 0, none⟩ = some (.int .i64 f.Start) ∧ w'.cell? ⟨w79.heap.size, 1, none⟩ = some (.slice A80 n81 c82) ∧ w'.cell? ⟨w.heap.size, 0, none⟩ = some (.int .i64 f.Start) ∧ w'.cell? ⟨w.heap.size, 1, none⟩ = some (.slice Af nf cf)) (first | (with_reducible exact ⟨cak102_0, cak102_1, cak10_0, cak10_1⟩) | (with_reducible exact ⟨cbk102_0, cbk102_1, cbk10_0, cbk10_1⟩) | (with_reducible exact ⟨cdk102_0, cdk102_1, cdk10_0, cdk10_1⟩))
        (first
        | (go_at_call 36; refine (ux.toReorderBuffer F144.out S23.out).mono ?_; rintro e w152 hp; obtain ⟨v157, fp156, rfl, ho, hb⟩ := hp.parts; clear hp; obtain ⟨A153, n154, c155, f9, rfl, _, _, _⟩ := ux.rob_o ho; have F158 := Lib.hid ho; clear ho; have B159 := Lib.hid (B142.out.trans (hb.mono B142.out.size)); have Z160 := Lib.hid hb.size; have F161 := Lib.hid (F144.out.below hb); have F162 := Lib.hid (F145.out.below hb); have F163 := Lib.hid (F146.out.below hb); have F164 := Lib.hid (F147.out.below hb); have F165 := Lib.hid (F148.out.below hb); have F166 := Lib.hid (F149.out.below hb); have F167 := Lib.hid (F150.out.below hb); have F168 := Lib.hid (F151.out.below hb); clear hb B142 F144 F145 F146 F147 F148 F149 F150 F151; have cbk102_0 : (w152).cell? ⟨w79.heap.size, 0, none⟩ = some (.int .i64 f.Start) := F167.out.cell 0; have cbk102_1 : (w152).cell? ⟨w79.heap.size, 1, none⟩ = some (.slice A80 n81 c82) := F167.out.cell 1; have cbk10_0 : (w152).cell? ⟨w.heap.size, 0, none⟩ = some (.int .i64 f.Start) := F165.out.cell 0; have cbk10_1 : (w152).cell? ⟨w.heap.size, 1, none⟩ = some (.slice Af nf cf) := F165.out.cell 1)
        | (go_at_call 32; refine (ux.eqReorderBuffer F163.out.rd F158.out.rd).mono ?_; rintro e w169 hp; obtain ⟨rfl, hb⟩ := bx.b_parts rfl hp; clear hp; have B170 := Lib.hid (B159.out.trans (hb.mono B159.out.size)); have Z171 := Lib.hid hb.size; have F172 := Lib.hid (F161.out.below hb); have F173 := Lib.hid (F162.out.below hb); have F174 := Lib.hid (F163.out.below hb); have F175 := Lib.hid (F164.out.below hb); have F176 := Lib.hid (F158.out.below hb); have F177 := Lib.hid (F165.out.below hb); have F178 := Lib.hid (F166.out.below hb); have F179 := Lib.hid (F167.out.below hb); have F180 := Lib.hid (F168.out.below hb); clear hb B159 F161 F162 F163 F164 F158 F165 F166 F167 F168; have cdk102_0 : (w169).cell? ⟨w79.heap.size, 0, none⟩ = some (.int .i64 f.Start) := F179.out.cell 0; have cdk102_1 : (w169).cell? ⟨w79.heap.size, 1, none⟩ = some (.slice A80 n81 c82) := F179.out.cell 1; have cdk10_0 : (w169).cell? ⟨w.heap.size, 0, none⟩ = some (.int .i64 f.Start) := F177.out.cell 0; have cdk10_1 : (w169).cell? ⟨w.heap.size, 1, none⟩ = some (.slice Af nf cf) := F177.out.cell 1))
      clear cak102_0 cak102_1 cak10_0 cak10_1 cbk102_0 cbk102_1 cbk10_0 cbk10_1 cdk102_0 cdk102_1 cdk10_0 cdk10_1
      clear F176
      clear F179
      clear F174
      have ck10_0 : (w169).cell? ⟨w.heap.size, 0, none⟩ = some (.int .i64 f.Start) := F177.out.cell 0
      have ck10_1 : (w169).cell? ⟨w.heap.size, 1, none⟩ = some (.slice Af nf cf) := F177.out.cell 1
      have ck12_0 : (w169).cell? ⟨w.heap.size + 1, 0, none⟩ = some (.int .i64 h.Start) := F178.out.cell 0
      have ck12_1 : (w169).cell? ⟨w.heap.size + 1, 1, none⟩ = some (.slice Ah nh ch) := F178.out.cell 1
      have ck130_0 : (w169).cell? ⟨w103.heap.size, 0, none⟩ = some (.int .i64 h.Start) := F180.out.cell 0
      have ck130_1 : (w169).cell? ⟨w103.heap.size, 1, none⟩ = some (.slice A104 n105 c106) := F180.out.cell 1
      go_wp2_with fail
      clear ck10_0 ck10_1 ck12_0 ck12_1 ck130_0 ck130_1
      have hb : Below w169.heap.size w169 w169.drew := own.below_drew (Below.refl _ _)
      have B181 := Lib.hid (B170.out.trans (hb.mono B170.out.size))
      have Z182 := Lib.hid hb.size
      have F183 := Lib.hid (F172.out.below hb)
      have F184 := Lib.hid (F173.out.below hb)
      have F185 := Lib.hid (F175.out.below hb)
      have F186 := Lib.hid (F177.out.below hb)
      have F187 := Lib.hid (F178.out.below hb)
      have F188 := Lib.hid (F180.out.below hb)
      clear hb B170 F172 F173 F175 F177 F178 F180
      have cak130_0 : (w169.drew).cell? ⟨w103.heap.size, 0, none⟩ = some (.int .i64 h.Start) := F188.out.cell 0
      have cak130_1 : (w169.drew).cell? ⟨w103.heap.size, 1, none⟩ = some (.slice A104 n105 c106) := F188.out.cell 1
      have cak12_0 : (w169.drew).cell? ⟨w.heap.size + 1, 0, none⟩ = some (.int .i64 h.Start) := F187.out.cell 0
      have cak12_1 : (w169.drew).cell? ⟨w.heap.size + 1, 1, none⟩ = some (.slice Ah nh ch) := F187.out.cell 1
      go_region_held3 (fun w' => w'.cell? ⟨w103.heap.size, 0, none⟩ = some (.int .i64 h.Start) ∧ w'.cell? ⟨w103.heap.size, 1, none⟩ = some (.slice A104 n105 c106) ∧ w'.cell? ⟨w.heap.size + 1, 0, none⟩ = some (.int .i64 h.Start) ∧ w'.cell? ⟨w.heap.size + 1, 1, none⟩ = some (.slice Ah nh ch)) (first | (with_reducible exact ⟨cak130_0, cak130_1, cak12_0, cak12_1⟩) | (with_reducible exact ⟨cbk130_0, cbk130_1, cbk12_0, cbk12_1⟩) | (with_reducible exact ⟨cdk130_0, cdk130_1, cdk12_0, cdk12_1⟩))
        (first
        | (go_at_call 36; refine (ux.toReorderBuffer F184.out S35.out).mono ?_; rintro e w189 hp; obtain ⟨v194, fp193, rfl, ho, hb⟩ := hp.parts; clear hp; obtain ⟨A190, n191, c192, f9, rfl, _, _, _⟩ := ux.rob_o ho; have F195 := Lib.hid ho; clear ho; have B196 := Lib.hid (B181.out.trans (hb.mono B181.out.size)); have Z197 := Lib.hid hb.size; have F198 := Lib.hid (F183.out.below hb); have F199 := Lib.hid (F184.out.below hb); have F200 := Lib.hid (F185.out.below hb); have F201 := Lib.hid (F186.out.below hb); have F202 := Lib.hid (F187.out.below hb); have F203 := Lib.hid (F188.out.below hb); clear hb B181 F183 F184 F185 F186 F187 F188; have cbk130_0 : (w189).cell? ⟨w103.heap.size, 0, none⟩ = some (.int .i64 h.Start) := F203.out.cell 0; have cbk130_1 : (w189).cell? ⟨w103.heap.size, 1, none⟩ = some (.slice A104 n105 c106) := F203.out.cell 1; have cbk12_0 : (w189).cell? ⟨w.heap.size + 1, 0, none⟩ = some (.int .i64 h.Start) := F202.out.cell 0; have cbk12_1 : (w189).cell? ⟨w.heap.size + 1, 1, none⟩ = some (.slice Ah nh ch) := F202.out.cell 1)
        | (go_at_call 32; refine (ux.eqReorderBuffer F200.out.rd F195.out.rd).mono ?_; rintro e w204 hp; obtain ⟨rfl, hb⟩ := bx.b_parts rfl hp; clear hp; have B205 := Lib.hid (B196.out.trans (hb.mono B196.out.size)); have Z206 := Lib.hid hb.size; have F207 := Lib.hid (F198.out.below hb); have F208 := Lib.hid (F199.out.below hb); have F209 := Lib.hid (F200.out.below hb); have F210 := Lib.hid (F195.out.below hb); have F211 := Lib.hid (F201.out.below hb); have F212 := Lib.hid (F202.out.below hb); have F213 := Lib.hid (F203.out.below hb); clear hb B196 F198 F199 F200 F195 F201 F202 F203; have cdk130_0 : (w204).cell? ⟨w103.heap.size, 0, none⟩ = some (.int .i64 h.Start) := F213.out.cell 0; have cdk130_1 : (w204).cell? ⟨w103.heap.size, 1, none⟩ = some (.slice A104 n105 c106) := F213.out.cell 1; have cdk12_0 : (w204).cell? ⟨w.heap.size + 1, 0, none⟩ = some (.int .i64 h.Start) := F212.out.cell 0; have cdk12_1 : (w204).cell? ⟨w.heap.size + 1, 1, none⟩ = some (.slice Ah nh ch) := F212.out.cell 1))
      clear cak130_0 cak130_1 cak12_0 cak12_1 cbk130_0 cbk130_1 cbk12_0 cbk12_1 cdk130_0 cdk130_1 cdk12_0 cdk12_1
      clear F210
      have ck10_0 : (w204).cell? ⟨w.heap.size, 0, none⟩ = some (.int .i64 f.Start) := F211.out.cell 0
      have ck10_1 : (w204).cell? ⟨w.heap.size, 1, none⟩ = some (.slice Af nf cf) := F211.out.cell 1
      have ck12_0 : (w204).cell? ⟨w.heap.size + 1, 0, none⟩ = some (.int .i64 h.Start) := F212.out.cell 0
      have ck12_1 : (w204).cell? ⟨w.heap.size + 1, 1, none⟩ = some (.slice Ah nh ch) := F212.out.cell 1
      have ck130_0 : (w204).cell? ⟨w103.heap.size, 0, none⟩ = some (.int .i64 h.Start) := F213.out.cell 0
      have ck130_1 : (w204).cell? ⟨w103.heap.size, 1, none⟩ = some (.slice A104 n105 c106) := F213.out.cell 1
      go_wp2_with fail
      clear ck10_0 ck10_1 ck12_0 ck12_1 ck130_0 ck130_1
      go_ret
      exact ⟨rfl, B205.out⟩
theorem walkA (f0 : Int) (Af : Option Addr) (nf cf : Nat) (zf : List ux.Nf) (h0 : Int) (Ah : Option Addr) (nh ch : Nat) (zh : List ux.Nf)  (w : World) (hf : opm.Nfq w 0 w.heap.size Af nf cf zf) (hh : opm.Nfq w 0 w.heap.size Ah nh ch zh)  :
    Calls Try.prog 11 #[.agg #[.int .i64 f0, .slice Af nf cf], .agg #[.int .i64 h0, .slice Ah nh ch]] w fun e w' => e = .returned (.bool true) ∧ Below w.heap.size w w' :=
  walk ⟨f0, zf⟩ Af nf cf ⟨h0, zh⟩ Ah nh ch w hf hh
end Go.Proofs.Ytmmhleobgpgliaa.xExactEqualReorderBuffers
