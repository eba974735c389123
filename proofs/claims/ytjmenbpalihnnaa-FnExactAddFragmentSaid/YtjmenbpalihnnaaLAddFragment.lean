/- The walk of FnExactAddFragment. Condition: none. -/
import Derived.Test.YtjmenbpalihnnaaRbm
namespace Go.Proofs.Ytjmenbpalihnnaa.xExactAddFragment
open Go.RowKit sl harn bx
set_option linter.unusedVariables false
set_option maxRecDepth 100000 in
set_option maxHeartbeats 4000000 in
theorem walk (x0 : List ux.Rea) (A0 : Option Addr) (n0 c0 : Nat) (f : ux.Fra) (Af : Option Addr) (nf cf : Nat) (now : Int) (w : World) (h0 : mrw.Rq fr.reaS w 0 w.heap.size A0 n0 c0 x0) (hf : sl.Rd .u8 w 0 w.heap.size Af nf cf f.Body)  :
    Calls Try.prog 9 #[.slice A0 n0 c0, ux.fraV f (.slice Af nf cf), .int .i64 now] w fun e w' => e = .returned (.bool true) ∧ Below w.heap.size w w' := by
  have B1 := Lib.hid (Below.refl w.heap.size w)
  have F2 := Lib.hid (fr.rea_rr h0)
  have HLF := Lib.hid (show f.Body.length = nf from hf.len)
  have F3 := Lib.hid (fr.fra_of (f := f) hf)
  clear h0 hf
  go_enter Try.func9, Try.ntmps9
  go_upto_region 1 with fail
  obtain ⟨we, hW⟩ : ∃ w0, w.alloc (.cells #[.int .i64 f.Kind, .int .i64 f.From, .int .i64 f.To, .int .i64 f.Seq, .int .i64 f.Fragment, .bool f.More, .bool f.Retry, .int .i64 f.Duration, .slice Af nf cf] 60) = w0 := ⟨_, rfl⟩
  rw [hW]
  have hb : Below w.heap.size w we := by rw [← hW]; exact (Below.refl _ _).alloc (by simp <;> omega) _
  have hz9 : w.heap.size + 1 ≤ we.heap.size := by rw [← hW]; simp
  have Z4 := Lib.hid hz9
  clear hz9
  have B5 := Lib.hid (B1.out.trans (hb.mono B1.out.size))
  have Z6 := Lib.hid hb.size
  have F7 := Lib.hid (F2.out.below hb)
  have F8 := Lib.hid (F3.out.below hb)
  clear hb B1 F2 F3
  have X9 := Lib.hid (show bx.Bx 60 we (w.heap.size) #[.int .i64 f.Kind, .int .i64 f.From, .int .i64 f.To, .int .i64 f.Seq, .int .i64 f.Fragment, .bool f.More, .bool f.Retry, .int .i64 f.Duration, .slice Af nf cf] by
      rw [← hW]
      have hh := bx.Bx.made 60 w #[.int .i64 f.Kind, .int .i64 f.From, .int .i64 f.To, .int .i64 f.Seq, .int .i64 f.Fragment, .bool f.More, .bool f.Retry, .int .i64 f.Duration, .slice Af nf cf]
      exact hh)
  clear hW
  have ck10_0 : (we).cell? ⟨w.heap.size, 0, none⟩ = some (.int .i64 f.Kind) := X9.out.cell 0
  have ck10_1 : (we).cell? ⟨w.heap.size, 1, none⟩ = some (.int .i64 f.From) := X9.out.cell 1
  have ck10_2 : (we).cell? ⟨w.heap.size, 2, none⟩ = some (.int .i64 f.To) := X9.out.cell 2
  have ck10_3 : (we).cell? ⟨w.heap.size, 3, none⟩ = some (.int .i64 f.Seq) := X9.out.cell 3
  have ck10_4 : (we).cell? ⟨w.heap.size, 4, none⟩ = some (.int .i64 f.Fragment) := X9.out.cell 4
  have ck10_5 : (we).cell? ⟨w.heap.size, 5, none⟩ = some (.bool f.More) := X9.out.cell 5
  have ck10_6 : (we).cell? ⟨w.heap.size, 6, none⟩ = some (.bool f.Retry) := X9.out.cell 6
  have ck10_7 : (we).cell? ⟨w.heap.size, 7, none⟩ = some (.int .i64 f.Duration) := X9.out.cell 7
  have ck10_8 : (we).cell? ⟨w.heap.size, 8, none⟩ = some (.slice Af nf cf) := X9.out.cell 8
  go_wp2_with fail
  clear ck10_0 ck10_1 ck10_2 ck10_3 ck10_4 ck10_5 ck10_6 ck10_7 ck10_8
  (with_reducible refine (ux.szReassemblyS (1048576) (by omega) F7.out).mono ?_)
  rintro e w11 hp
  obtain ⟨r12, rfl, H13, hb⟩ := hp.parts
  have B14 := Lib.hid (B5.out.trans (hb.mono B5.out.size))
  have Z15 := Lib.hid hb.size
  have F16 := Lib.hid (F7.out.below hb)
  have F17 := Lib.hid (F8.out.below hb)
  have F18 := Lib.hid (X9.out.below hb)
  clear hb B5 F7 F8 X9
  rcases H13 with ⟨hr, _⟩ | ⟨hr, ht⟩
  · subst hr
    go_wp2_with fail
    go_ret
    exact ⟨rfl, B14.out⟩
  · have Q19 := Lib.hid (show 0 ≤ r12 ∧ r12 ≤ 1048576 by have := (by omega); omega)
    have S20 := Lib.hid (show ux.rowRea.sz x0 ≤ 67108864 by have := (by omega); omega)
    have S21 := Lib.hid (show ux.rowRea.sz x0 ≤ 1048576 by have := (by omega); omega)
    have ngr12 : ¬ r12 < 0 := by have := Q19.out; omega
    clear hr ht
    have ck10_0 : (w11).cell? ⟨w.heap.size, 0, none⟩ = some (.int .i64 f.Kind) := F18.out.cell 0
    have ck10_1 : (w11).cell? ⟨w.heap.size, 1, none⟩ = some (.int .i64 f.From) := F18.out.cell 1
    have ck10_2 : (w11).cell? ⟨w.heap.size, 2, none⟩ = some (.int .i64 f.To) := F18.out.cell 2
    have ck10_3 : (w11).cell? ⟨w.heap.size, 3, none⟩ = some (.int .i64 f.Seq) := F18.out.cell 3
    have ck10_4 : (w11).cell? ⟨w.heap.size, 4, none⟩ = some (.int .i64 f.Fragment) := F18.out.cell 4
    have ck10_5 : (w11).cell? ⟨w.heap.size, 5, none⟩ = some (.bool f.More) := F18.out.cell 5
    have ck10_6 : (w11).cell? ⟨w.heap.size, 6, none⟩ = some (.bool f.Retry) := F18.out.cell 6
    have ck10_7 : (w11).cell? ⟨w.heap.size, 7, none⟩ = some (.int .i64 f.Duration) := F18.out.cell 7
    have ck10_8 : (w11).cell? ⟨w.heap.size, 8, none⟩ = some (.slice Af nf cf) := F18.out.cell 8
    go_wp2_with fail
    clear ck10_0 ck10_1 ck10_2 ck10_3 ck10_4 ck10_5 ck10_6 ck10_7 ck10_8
    (with_reducible refine (ux.szMacFrame (r12) (Q19.out) F17.out).mono ?_)
    rintro e w22 hp
    obtain ⟨r23, rfl, H24, hb⟩ := hp.parts
    have B25 := Lib.hid (B14.out.trans (hb.mono B14.out.size))
    have Z26 := Lib.hid hb.size
    have F27 := Lib.hid (F16.out.below hb)
    have F28 := Lib.hid (F17.out.below hb)
    have F29 := Lib.hid (F18.out.below hb)
    clear hb B14 F16 F17 F18
    rcases H24 with ⟨hr, _⟩ | ⟨hr, ht⟩
    · subst hr
      go_wp2_with fail
      go_ret
      exact ⟨rfl, B25.out⟩
    · have Q30 := Lib.hid (show 0 ≤ r23 ∧ r23 ≤ 1048576 by have := (Q19.out); omega)
      have S31 := Lib.hid (show ux.fra.sz f ≤ 67108864 by have := (Q19.out); omega)
      have S32 := Lib.hid (show ux.fra.sz f ≤ 1048576 by have := (Q19.out); omega)
      have ngr23 : ¬ r23 < 0 := by have := Q30.out; omega
      clear hr ht
      have HNF := Lib.hid (show nf ≤ 67108864 by have h1 := S31.out; have h2 : ux.fra.sz f = f.Body.length := rfl; have h3 := HLF.out; omega)
      obtain ⟨⟨l9, b9, d9⟩, hp9⟩ : ∃ p, fr.add x0 f now = p := ⟨_, rfl⟩
      have HX := Lib.hid hp9
      have SL := Lib.hid (fr.add_sz hp9 S21.out S32.out).1
      have SB := Lib.hid (fr.add_sz hp9 S21.out S32.out).2
      have BD := Lib.hid (fr.list_bd S20.out)
      clear hp9
      have ck10_0 : (w22).cell? ⟨w.heap.size, 0, none⟩ = some (.int .i64 f.Kind) := F29.out.cell 0
      have ck10_1 : (w22).cell? ⟨w.heap.size, 1, none⟩ = some (.int .i64 f.From) := F29.out.cell 1
      have ck10_2 : (w22).cell? ⟨w.heap.size, 2, none⟩ = some (.int .i64 f.To) := F29.out.cell 2
      have ck10_3 : (w22).cell? ⟨w.heap.size, 3, none⟩ = some (.int .i64 f.Seq) := F29.out.cell 3
      have ck10_4 : (w22).cell? ⟨w.heap.size, 4, none⟩ = some (.int .i64 f.Fragment) := F29.out.cell 4
      have ck10_5 : (w22).cell? ⟨w.heap.size, 5, none⟩ = some (.bool f.More) := F29.out.cell 5
      have ck10_6 : (w22).cell? ⟨w.heap.size, 6, none⟩ = some (.bool f.Retry) := F29.out.cell 6
      have ck10_7 : (w22).cell? ⟨w.heap.size, 7, none⟩ = some (.int .i64 f.Duration) := F29.out.cell 7
      have ck10_8 : (w22).cell? ⟨w.heap.size, 8, none⟩ = some (.slice Af nf cf) := F29.out.cell 8
      go_wp2_with fail
      clear ck10_0 ck10_1 ck10_2 ck10_3 ck10_4 ck10_5 ck10_6 ck10_7 ck10_8
      have hb : Below w22.heap.size w22 w22.drew := own.below_drew (Below.refl _ _)
      have B33 := Lib.hid (B25.out.trans (hb.mono B25.out.size))
      have Z34 := Lib.hid hb.size
      have F35 := Lib.hid (F27.out.below hb)
      have F36 := Lib.hid (F28.out.below hb)
      have F37 := Lib.hid (F29.out.below hb)
      clear hb B25 F27 F28 F29
      have cak10_0 : (w22.drew).cell? ⟨w.heap.size, 0, none⟩ = some (.int .i64 f.Kind) := F37.out.cell 0
      have cak10_1 : (w22.drew).cell? ⟨w.heap.size, 1, none⟩ = some (.int .i64 f.From) := F37.out.cell 1
      have cak10_2 : (w22.drew).cell? ⟨w.heap.size, 2, none⟩ = some (.int .i64 f.To) := F37.out.cell 2
      have cak10_3 : (w22.drew).cell? ⟨w.heap.size, 3, none⟩ = some (.int .i64 f.Seq) := F37.out.cell 3
      have cak10_4 : (w22.drew).cell? ⟨w.heap.size, 4, none⟩ = some (.int .i64 f.Fragment) := F37.out.cell 4
      have cak10_5 : (w22.drew).cell? ⟨w.heap.size, 5, none⟩ = some (.bool f.More) := F37.out.cell 5
      have cak10_6 : (w22.drew).cell? ⟨w.heap.size, 6, none⟩ = some (.bool f.Retry) := F37.out.cell 6
      have cak10_7 : (w22.drew).cell? ⟨w.heap.size, 7, none⟩ = some (.int .i64 f.Duration) := F37.out.cell 7
      have cak10_8 : (w22.drew).cell? ⟨w.heap.size, 8, none⟩ = some (.slice Af nf cf) := F37.out.cell 8
      go_region_held3 (fun w' => w'.cell? ⟨w.heap.size, 0, none⟩ = some (.int .i64 f.Kind) ∧ w'.cell? ⟨w.heap.size, 1, none⟩ = some (.int .i64 f.From) ∧ w'.cell? ⟨w.heap.size, 2, none⟩ = some (.int .i64 f.To) ∧ w'.cell? ⟨w.heap.size, 3, none⟩ = some (.int .i64 f.Seq) ∧ w'.cell? ⟨w.heap.size, 4, none⟩ = some (.int .i64 f.Fragment) ∧ w'.cell? ⟨w.heap.size, 5, none⟩ = some (.bool f.More) ∧ w'.cell? ⟨w.heap.size, 6, none⟩ = some (.bool f.Retry) ∧ w'.cell? ⟨w.heap.size, 7, none⟩ = some (.int .i64 f.Duration) ∧ w'.cell? ⟨w.heap.size, 8, none⟩ = some (.slice Af nf cf)) (first | (with_reducible exact ⟨cak10_0, cak10_1, cak10_2, cak10_3, cak10_4, cak10_5, cak10_6, cak10_7, cak10_8⟩) | (with_reducible exact ⟨cbk10_0, cbk10_1, cbk10_2, cbk10_3, cbk10_4, cbk10_5, cbk10_6, cbk10_7, cbk10_8⟩) | (with_reducible exact ⟨cdk10_0, cdk10_1, cdk10_2, cdk10_3, cdk10_4, cdk10_5, cdk10_6, cdk10_7, cdk10_8⟩) | (with_reducible exact ⟨cek10_0, cek10_1, cek10_2, cek10_3, cek10_4, cek10_5, cek10_6, cek10_7, cek10_8⟩))
        (first
        | (go_at_call 50; (with_reducible refine (ux.toReassemblyS F35.out S20.out).mono ?_); rintro e w38 hp; obtain ⟨v43, fp42, rfl, ho, hb⟩ := hp.parts; clear hp; obtain ⟨A39, n40, c41, rfl⟩ := ux.rowRea_slo ho.1; have F44 := Lib.hid ho; clear ho; have B45 := Lib.hid (B33.out.trans (hb.mono B33.out.size)); have Z46 := Lib.hid hb.size; have F47 := Lib.hid (F35.out.below hb); have F48 := Lib.hid (F36.out.below hb); have F49 := Lib.hid (F37.out.below hb); clear hb B33 F35 F36 F37; have cbk10_0 : (w38).cell? ⟨w.heap.size, 0, none⟩ = some (.int .i64 f.Kind) := F49.out.cell 0; have cbk10_1 : (w38).cell? ⟨w.heap.size, 1, none⟩ = some (.int .i64 f.From) := F49.out.cell 1; have cbk10_2 : (w38).cell? ⟨w.heap.size, 2, none⟩ = some (.int .i64 f.To) := F49.out.cell 2; have cbk10_3 : (w38).cell? ⟨w.heap.size, 3, none⟩ = some (.int .i64 f.Seq) := F49.out.cell 3; have cbk10_4 : (w38).cell? ⟨w.heap.size, 4, none⟩ = some (.int .i64 f.Fragment) := F49.out.cell 4; have cbk10_5 : (w38).cell? ⟨w.heap.size, 5, none⟩ = some (.bool f.More) := F49.out.cell 5; have cbk10_6 : (w38).cell? ⟨w.heap.size, 6, none⟩ = some (.bool f.Retry) := F49.out.cell 6; have cbk10_7 : (w38).cell? ⟨w.heap.size, 7, none⟩ = some (.int .i64 f.Duration) := F49.out.cell 7; have cbk10_8 : (w38).cell? ⟨w.heap.size, 8, none⟩ = some (.slice Af nf cf) := F49.out.cell 8)
        | (go_at_call 38; (with_reducible refine (ux.toMacFrame F48.out S31.out).mono ?_); rintro e w50 hp; obtain ⟨v55, fp54, rfl, ho, hb⟩ := hp.parts; clear hp; obtain ⟨A51, n52, c53, f9, rfl, _, _, _⟩ := ux.fra_o ho; have F56 := Lib.hid ho; clear ho; have B57 := Lib.hid (B45.out.trans (hb.mono B45.out.size)); have Z58 := Lib.hid hb.size; have F59 := Lib.hid (F47.out.below hb); have F60 := Lib.hid (F48.out.below hb); have F61 := Lib.hid (F44.out.below hb); have F62 := Lib.hid (F49.out.below hb); clear hb B45 F47 F48 F44 F49; have cdk10_0 : (w50).cell? ⟨w.heap.size, 0, none⟩ = some (.int .i64 f.Kind) := F62.out.cell 0; have cdk10_1 : (w50).cell? ⟨w.heap.size, 1, none⟩ = some (.int .i64 f.From) := F62.out.cell 1; have cdk10_2 : (w50).cell? ⟨w.heap.size, 2, none⟩ = some (.int .i64 f.To) := F62.out.cell 2; have cdk10_3 : (w50).cell? ⟨w.heap.size, 3, none⟩ = some (.int .i64 f.Seq) := F62.out.cell 3; have cdk10_4 : (w50).cell? ⟨w.heap.size, 4, none⟩ = some (.int .i64 f.Fragment) := F62.out.cell 4; have cdk10_5 : (w50).cell? ⟨w.heap.size, 5, none⟩ = some (.bool f.More) := F62.out.cell 5; have cdk10_6 : (w50).cell? ⟨w.heap.size, 6, none⟩ = some (.bool f.Retry) := F62.out.cell 6; have cdk10_7 : (w50).cell? ⟨w.heap.size, 7, none⟩ = some (.int .i64 f.Duration) := F62.out.cell 7; have cdk10_8 : (w50).cell? ⟨w.heap.size, 8, none⟩ = some (.slice Af nf cf) := F62.out.cell 8)
        | (go_at_call 49; (with_reducible refine (HX.out ▸ fr.specAf f now x0 A39 n40 c41 _ _ (by have h1 := (fr.rea_rq F61.out.rd).len; have h2 := BD.out.1; omega) BD.out.2 _ (fr.rea_rq F61.out.rd) A51 n52 c53 _ _ (fr.fra_rd F56.out.rd) (by have h1 := (fr.fra_rd F56.out.rd).len; have h2 := HLF.out; have h3 := HNF.out; omega)).mono ?_); rintro e w63 hp; obtain ⟨A64, n65, c66, es67, A68, n69, c70, rfl, g9, ho, hw, hb⟩ := fr.t3_out hp; clear hp; obtain ⟨fp71, ho2⟩ := fr.rea_oo ho g9; have hw2 := ux.num_of hw; clear ho g9 hw; have F72 := Lib.hid ho2; clear ho2; have F73 := Lib.hid hw2; clear hw2; have B74 := Lib.hid (B57.out.trans (hb.mono B57.out.size)); have Z75 := Lib.hid hb.size; have F76 := Lib.hid (F59.out.below hb); have F77 := Lib.hid (F60.out.below hb); have F78 := Lib.hid (F61.out.below hb); have F79 := Lib.hid (F56.out.below hb); have F80 := Lib.hid (F62.out.below hb); clear hb B57 F59 F60 F61 F56 F62; have cek10_0 : (w63).cell? ⟨w.heap.size, 0, none⟩ = some (.int .i64 f.Kind) := F80.out.cell 0; have cek10_1 : (w63).cell? ⟨w.heap.size, 1, none⟩ = some (.int .i64 f.From) := F80.out.cell 1; have cek10_2 : (w63).cell? ⟨w.heap.size, 2, none⟩ = some (.int .i64 f.To) := F80.out.cell 2; have cek10_3 : (w63).cell? ⟨w.heap.size, 3, none⟩ = some (.int .i64 f.Seq) := F80.out.cell 3; have cek10_4 : (w63).cell? ⟨w.heap.size, 4, none⟩ = some (.int .i64 f.Fragment) := F80.out.cell 4; have cek10_5 : (w63).cell? ⟨w.heap.size, 5, none⟩ = some (.bool f.More) := F80.out.cell 5; have cek10_6 : (w63).cell? ⟨w.heap.size, 6, none⟩ = some (.bool f.Retry) := F80.out.cell 6; have cek10_7 : (w63).cell? ⟨w.heap.size, 7, none⟩ = some (.int .i64 f.Duration) := F80.out.cell 7; have cek10_8 : (w63).cell? ⟨w.heap.size, 8, none⟩ = some (.slice Af nf cf) := F80.out.cell 8))
      clear cak10_0 cak10_1 cak10_2 cak10_3 cak10_4 cak10_5 cak10_6 cak10_7 cak10_8 cbk10_0 cbk10_1 cbk10_2 cbk10_3 cbk10_4 cbk10_5 cbk10_6 cbk10_7 cbk10_8 cdk10_0 cdk10_1 cdk10_2 cdk10_3 cdk10_4 cdk10_5 cdk10_6 cdk10_7 cdk10_8 cek10_0 cek10_1 cek10_2 cek10_3 cek10_4 cek10_5 cek10_6 cek10_7 cek10_8
      clear F78
      clear F79
      have ck10_0 : (w63).cell? ⟨w.heap.size, 0, none⟩ = some (.int .i64 f.Kind) := F80.out.cell 0
      have ck10_1 : (w63).cell? ⟨w.heap.size, 1, none⟩ = some (.int .i64 f.From) := F80.out.cell 1
      have ck10_2 : (w63).cell? ⟨w.heap.size, 2, none⟩ = some (.int .i64 f.To) := F80.out.cell 2
      have ck10_3 : (w63).cell? ⟨w.heap.size, 3, none⟩ = some (.int .i64 f.Seq) := F80.out.cell 3
      have ck10_4 : (w63).cell? ⟨w.heap.size, 4, none⟩ = some (.int .i64 f.Fragment) := F80.out.cell 4
      have ck10_5 : (w63).cell? ⟨w.heap.size, 5, none⟩ = some (.bool f.More) := F80.out.cell 5
      have ck10_6 : (w63).cell? ⟨w.heap.size, 6, none⟩ = some (.bool f.Retry) := F80.out.cell 6
      have ck10_7 : (w63).cell? ⟨w.heap.size, 7, none⟩ = some (.int .i64 f.Duration) := F80.out.cell 7
      have ck10_8 : (w63).cell? ⟨w.heap.size, 8, none⟩ = some (.slice Af nf cf) := F80.out.cell 8
      go_wp2_with fail
      clear ck10_0 ck10_1 ck10_2 ck10_3 ck10_4 ck10_5 ck10_6 ck10_7 ck10_8
      (with_reducible refine (ux.toReassemblyS F76.out S20.out).mono ?_)
      rintro e w81 hp
      obtain ⟨v86, fp85, rfl, ho, hb⟩ := hp.parts
      clear hp
      obtain ⟨A82, n83, c84, rfl⟩ := ux.rowRea_slo ho.1
      have F87 := Lib.hid ho
      clear ho
      have B88 := Lib.hid (B74.out.trans (hb.mono B74.out.size))
      have Z89 := Lib.hid hb.size
      have F90 := Lib.hid (F76.out.below hb)
      have F91 := Lib.hid (F77.out.below hb)
      have F92 := Lib.hid (F72.out.below hb)
      have F93 := Lib.hid (F73.out.below hb)
      have F94 := Lib.hid (F80.out.below hb)
      clear hb B74 F76 F77 F72 F73 F80
      have ck10_0 : (w81).cell? ⟨w.heap.size, 0, none⟩ = some (.int .i64 f.Kind) := F94.out.cell 0
      have ck10_1 : (w81).cell? ⟨w.heap.size, 1, none⟩ = some (.int .i64 f.From) := F94.out.cell 1
      have ck10_2 : (w81).cell? ⟨w.heap.size, 2, none⟩ = some (.int .i64 f.To) := F94.out.cell 2
      have ck10_3 : (w81).cell? ⟨w.heap.size, 3, none⟩ = some (.int .i64 f.Seq) := F94.out.cell 3
      have ck10_4 : (w81).cell? ⟨w.heap.size, 4, none⟩ = some (.int .i64 f.Fragment) := F94.out.cell 4
      have ck10_5 : (w81).cell? ⟨w.heap.size, 5, none⟩ = some (.bool f.More) := F94.out.cell 5
      have ck10_6 : (w81).cell? ⟨w.heap.size, 6, none⟩ = some (.bool f.Retry) := F94.out.cell 6
      have ck10_7 : (w81).cell? ⟨w.heap.size, 7, none⟩ = some (.int .i64 f.Duration) := F94.out.cell 7
      have ck10_8 : (w81).cell? ⟨w.heap.size, 8, none⟩ = some (.slice Af nf cf) := F94.out.cell 8
      go_wp2_with fail
      clear ck10_0 ck10_1 ck10_2 ck10_3 ck10_4 ck10_5 ck10_6 ck10_7 ck10_8
      (with_reducible refine (ux.toMacFrame F91.out S31.out).mono ?_)
      rintro e w95 hp
      obtain ⟨v100, fp99, rfl, ho, hb⟩ := hp.parts
      clear hp
      obtain ⟨A96, n97, c98, f9, rfl, _, _, _⟩ := ux.fra_o ho
      have F101 := Lib.hid ho
      clear ho
      have B102 := Lib.hid (B88.out.trans (hb.mono B88.out.size))
      have Z103 := Lib.hid hb.size
      have F104 := Lib.hid (F90.out.below hb)
      have F105 := Lib.hid (F91.out.below hb)
      have F106 := Lib.hid (F92.out.below hb)
      have F107 := Lib.hid (F93.out.below hb)
      have F108 := Lib.hid (F87.out.below hb)
      have F109 := Lib.hid (F94.out.below hb)
      clear hb B88 F90 F91 F92 F93 F87 F94
      obtain ⟨V110, hV110⟩ : ∃ x, x = w95.alloc (.cells #[.int .i64 f.Kind, .int .i64 f.From, .int .i64 f.To, .int .i64 f.Seq, .int .i64 f.Fragment, .bool f.More, .bool f.Retry, .int .i64 f.Duration, .slice A96 n97 c98] 45) := ⟨_, rfl⟩
      have hb : Below w95.heap.size w95 V110 := by rw [hV110]; exact bx.below_box _ _
      have hz9 : w95.heap.size + 1 ≤ V110.heap.size := by rw [hV110]; simp
      have Z111 := Lib.hid hz9
      clear hz9
      have B112 := Lib.hid (B102.out.trans (hb.mono B102.out.size))
      have Z113 := Lib.hid hb.size
      have F114 := Lib.hid (F104.out.below hb)
      have F115 := Lib.hid (F105.out.below hb)
      have F116 := Lib.hid (F106.out.below hb)
      have F117 := Lib.hid (F107.out.below hb)
      have F118 := Lib.hid (F108.out.below hb)
      have F119 := Lib.hid (F101.out.below hb)
      have F120 := Lib.hid (F109.out.below hb)
      clear hb B102 F104 F105 F106 F107 F108 F101 F109
      have X121 := Lib.hid (show bx.Bx 45 V110 w95.heap.size #[.int .i64 f.Kind, .int .i64 f.From, .int .i64 f.To, .int .i64 f.Seq, .int .i64 f.Fragment, .bool f.More, .bool f.Retry, .int .i64 f.Duration, .slice A96 n97 c98] by rw [hV110]; exact bx.Bx.made _ _ _)
      have ck10_0 : (w95.alloc (.cells #[.int .i64 f.Kind, .int .i64 f.From, .int .i64 f.To, .int .i64 f.Seq, .int .i64 f.Fragment, .bool f.More, .bool f.Retry, .int .i64 f.Duration, .slice A96 n97 c98] 45)).cell? ⟨w.heap.size, 0, none⟩ = some (.int .i64 f.Kind) := by rw [← hV110]; exact F120.out.cell 0
      have ck10_1 : (w95.alloc (.cells #[.int .i64 f.Kind, .int .i64 f.From, .int .i64 f.To, .int .i64 f.Seq, .int .i64 f.Fragment, .bool f.More, .bool f.Retry, .int .i64 f.Duration, .slice A96 n97 c98] 45)).cell? ⟨w.heap.size, 1, none⟩ = some (.int .i64 f.From) := by rw [← hV110]; exact F120.out.cell 1
      have ck10_2 : (w95.alloc (.cells #[.int .i64 f.Kind, .int .i64 f.From, .int .i64 f.To, .int .i64 f.Seq, .int .i64 f.Fragment, .bool f.More, .bool f.Retry, .int .i64 f.Duration, .slice A96 n97 c98] 45)).cell? ⟨w.heap.size, 2, none⟩ = some (.int .i64 f.To) := by rw [← hV110]; exact F120.out.cell 2
      have ck10_3 : (w95.alloc (.cells #[.int .i64 f.Kind, .int .i64 f.From, .int .i64 f.To, .int .i64 f.Seq, .int .i64 f.Fragment, .bool f.More, .bool f.Retry, .int .i64 f.Duration, .slice A96 n97 c98] 45)).cell? ⟨w.heap.size, 3, none⟩ = some (.int .i64 f.Seq) := by rw [← hV110]; exact F120.out.cell 3
      have ck10_4 : (w95.alloc (.cells #[.int .i64 f.Kind, .int .i64 f.From, .int .i64 f.To, .int .i64 f.Seq, .int .i64 f.Fragment, .bool f.More, .bool f.Retry, .int .i64 f.Duration, .slice A96 n97 c98] 45)).cell? ⟨w.heap.size, 4, none⟩ = some (.int .i64 f.Fragment) := by rw [← hV110]; exact F120.out.cell 4
      have ck10_5 : (w95.alloc (.cells #[.int .i64 f.Kind, .int .i64 f.From, .int .i64 f.To, .int .i64 f.Seq, .int .i64 f.Fragment, .bool f.More, .bool f.Retry, .int .i64 f.Duration, .slice A96 n97 c98] 45)).cell? ⟨w.heap.size, 5, none⟩ = some (.bool f.More) := by rw [← hV110]; exact F120.out.cell 5
      have ck10_6 : (w95.alloc (.cells #[.int .i64 f.Kind, .int .i64 f.From, .int .i64 f.To, .int .i64 f.Seq, .int .i64 f.Fragment, .bool f.More, .bool f.Retry, .int .i64 f.Duration, .slice A96 n97 c98] 45)).cell? ⟨w.heap.size, 6, none⟩ = some (.bool f.Retry) := by rw [← hV110]; exact F120.out.cell 6
      have ck10_7 : (w95.alloc (.cells #[.int .i64 f.Kind, .int .i64 f.From, .int .i64 f.To, .int .i64 f.Seq, .int .i64 f.Fragment, .bool f.More, .bool f.Retry, .int .i64 f.Duration, .slice A96 n97 c98] 45)).cell? ⟨w.heap.size, 7, none⟩ = some (.int .i64 f.Duration) := by rw [← hV110]; exact F120.out.cell 7
      have ck10_8 : (w95.alloc (.cells #[.int .i64 f.Kind, .int .i64 f.From, .int .i64 f.To, .int .i64 f.Seq, .int .i64 f.Fragment, .bool f.More, .bool f.Retry, .int .i64 f.Duration, .slice A96 n97 c98] 45)).cell? ⟨w.heap.size, 8, none⟩ = some (.slice Af nf cf) := by rw [← hV110]; exact F120.out.cell 8
      have ck122_0 : (w95.alloc (.cells #[.int .i64 f.Kind, .int .i64 f.From, .int .i64 f.To, .int .i64 f.Seq, .int .i64 f.Fragment, .bool f.More, .bool f.Retry, .int .i64 f.Duration, .slice A96 n97 c98] 45)).cell? ⟨w95.heap.size, 0, none⟩ = some (.int .i64 f.Kind) := by rw [← hV110]; exact X121.out.cell 0
      have ck122_1 : (w95.alloc (.cells #[.int .i64 f.Kind, .int .i64 f.From, .int .i64 f.To, .int .i64 f.Seq, .int .i64 f.Fragment, .bool f.More, .bool f.Retry, .int .i64 f.Duration, .slice A96 n97 c98] 45)).cell? ⟨w95.heap.size, 1, none⟩ = some (.int .i64 f.From) := by rw [← hV110]; exact X121.out.cell 1
      have ck122_2 : (w95.alloc (.cells #[.int .i64 f.Kind, .int .i64 f.From, .int .i64 f.To, .int .i64 f.Seq, .int .i64 f.Fragment, .bool f.More, .bool f.Retry, .int .i64 f.Duration, .slice A96 n97 c98] 45)).cell? ⟨w95.heap.size, 2, none⟩ = some (.int .i64 f.To) := by rw [← hV110]; exact X121.out.cell 2
      have ck122_3 : (w95.alloc (.cells #[.int .i64 f.Kind, .int .i64 f.From, .int .i64 f.To, .int .i64 f.Seq, .int .i64 f.Fragment, .bool f.More, .bool f.Retry, .int .i64 f.Duration, .slice A96 n97 c98] 45)).cell? ⟨w95.heap.size, 3, none⟩ = some (.int .i64 f.Seq) := by rw [← hV110]; exact X121.out.cell 3
      have ck122_4 : (w95.alloc (.cells #[.int .i64 f.Kind, .int .i64 f.From, .int .i64 f.To, .int .i64 f.Seq, .int .i64 f.Fragment, .bool f.More, .bool f.Retry, .int .i64 f.Duration, .slice A96 n97 c98] 45)).cell? ⟨w95.heap.size, 4, none⟩ = some (.int .i64 f.Fragment) := by rw [← hV110]; exact X121.out.cell 4
      have ck122_5 : (w95.alloc (.cells #[.int .i64 f.Kind, .int .i64 f.From, .int .i64 f.To, .int .i64 f.Seq, .int .i64 f.Fragment, .bool f.More, .bool f.Retry, .int .i64 f.Duration, .slice A96 n97 c98] 45)).cell? ⟨w95.heap.size, 5, none⟩ = some (.bool f.More) := by rw [← hV110]; exact X121.out.cell 5
      have ck122_6 : (w95.alloc (.cells #[.int .i64 f.Kind, .int .i64 f.From, .int .i64 f.To, .int .i64 f.Seq, .int .i64 f.Fragment, .bool f.More, .bool f.Retry, .int .i64 f.Duration, .slice A96 n97 c98] 45)).cell? ⟨w95.heap.size, 6, none⟩ = some (.bool f.Retry) := by rw [← hV110]; exact X121.out.cell 6
      have ck122_7 : (w95.alloc (.cells #[.int .i64 f.Kind, .int .i64 f.From, .int .i64 f.To, .int .i64 f.Seq, .int .i64 f.Fragment, .bool f.More, .bool f.Retry, .int .i64 f.Duration, .slice A96 n97 c98] 45)).cell? ⟨w95.heap.size, 7, none⟩ = some (.int .i64 f.Duration) := by rw [← hV110]; exact X121.out.cell 7
      have ck122_8 : (w95.alloc (.cells #[.int .i64 f.Kind, .int .i64 f.From, .int .i64 f.To, .int .i64 f.Seq, .int .i64 f.Fragment, .bool f.More, .bool f.Retry, .int .i64 f.Duration, .slice A96 n97 c98] 45)).cell? ⟨w95.heap.size, 8, none⟩ = some (.slice A96 n97 c98) := by rw [← hV110]; exact X121.out.cell 8
      go_wp2_with fail
      rw [← hV110]
      clear hV110 ck10_0 ck10_1 ck10_2 ck10_3 ck10_4 ck10_5 ck10_6 ck10_7 ck10_8 ck122_0 ck122_1 ck122_2 ck122_3 ck122_4 ck122_5 ck122_6 ck122_7 ck122_8
      (with_reducible refine (HX.out ▸ fr.implAf f now x0 A82 n83 c84 _ _ (by have h1 := (fr.rea_rq F118.out.rd).len; have h2 := BD.out.1; omega) BD.out.2 _ (fr.rea_rq F118.out.rd) A96 n97 c98 _ _ (fr.fra_rd F119.out.rd) (by have h1 := (fr.fra_rd F119.out.rd).len; have h2 := HLF.out; have h3 := HNF.out; omega)).mono ?_)
      rintro e w123 hp
      obtain ⟨A124, n125, c126, es127, A128, n129, c130, rfl, g9, ho, hw, hdj, hb⟩ := fr.a_out hp
      clear hp
      obtain ⟨fp131, ho2, hap⟩ := fr.rea_apart ho g9 hw hdj
      have HAP132 := Lib.hid hap
      clear hap hdj
      have hw2 := ux.num_of hw
      clear ho g9 hw
      have F133 := Lib.hid ho2
      clear ho2
      have F134 := Lib.hid hw2
      clear hw2
      have B135 := Lib.hid (B112.out.trans (hb.mono B112.out.size))
      have Z136 := Lib.hid hb.size
      have F137 := Lib.hid (F114.out.below hb)
      have F138 := Lib.hid (F115.out.below hb)
      have F139 := Lib.hid (F116.out.below hb)
      have F140 := Lib.hid (F117.out.below hb)
      have F141 := Lib.hid (F118.out.below hb)
      have F142 := Lib.hid (F119.out.below hb)
      have F143 := Lib.hid (F120.out.below hb)
      have F144 := Lib.hid (X121.out.below hb)
      clear hb B112 F114 F115 F116 F117 F118 F119 F120 X121
      have ck10_0 : (w123).cell? ⟨w.heap.size, 0, none⟩ = some (.int .i64 f.Kind) := F143.out.cell 0
      have ck10_1 : (w123).cell? ⟨w.heap.size, 1, none⟩ = some (.int .i64 f.From) := F143.out.cell 1
      have ck10_2 : (w123).cell? ⟨w.heap.size, 2, none⟩ = some (.int .i64 f.To) := F143.out.cell 2
      have ck10_3 : (w123).cell? ⟨w.heap.size, 3, none⟩ = some (.int .i64 f.Seq) := F143.out.cell 3
      have ck10_4 : (w123).cell? ⟨w.heap.size, 4, none⟩ = some (.int .i64 f.Fragment) := F143.out.cell 4
      have ck10_5 : (w123).cell? ⟨w.heap.size, 5, none⟩ = some (.bool f.More) := F143.out.cell 5
      have ck10_6 : (w123).cell? ⟨w.heap.size, 6, none⟩ = some (.bool f.Retry) := F143.out.cell 6
      have ck10_7 : (w123).cell? ⟨w.heap.size, 7, none⟩ = some (.int .i64 f.Duration) := F143.out.cell 7
      have ck10_8 : (w123).cell? ⟨w.heap.size, 8, none⟩ = some (.slice Af nf cf) := F143.out.cell 8
      have ck122_0 : (w123).cell? ⟨w95.heap.size, 0, none⟩ = some (.int .i64 f.Kind) := F144.out.cell 0
      have ck122_1 : (w123).cell? ⟨w95.heap.size, 1, none⟩ = some (.int .i64 f.From) := F144.out.cell 1
      have ck122_2 : (w123).cell? ⟨w95.heap.size, 2, none⟩ = some (.int .i64 f.To) := F144.out.cell 2
      have ck122_3 : (w123).cell? ⟨w95.heap.size, 3, none⟩ = some (.int .i64 f.Seq) := F144.out.cell 3
      have ck122_4 : (w123).cell? ⟨w95.heap.size, 4, none⟩ = some (.int .i64 f.Fragment) := F144.out.cell 4
      have ck122_5 : (w123).cell? ⟨w95.heap.size, 5, none⟩ = some (.bool f.More) := F144.out.cell 5
      have ck122_6 : (w123).cell? ⟨w95.heap.size, 6, none⟩ = some (.bool f.Retry) := F144.out.cell 6
      have ck122_7 : (w123).cell? ⟨w95.heap.size, 7, none⟩ = some (.int .i64 f.Duration) := F144.out.cell 7
      have ck122_8 : (w123).cell? ⟨w95.heap.size, 8, none⟩ = some (.slice A96 n97 c98) := F144.out.cell 8
      go_wp2_with fail
      clear ck10_0 ck10_1 ck10_2 ck10_3 ck10_4 ck10_5 ck10_6 ck10_7 ck10_8 ck122_0 ck122_1 ck122_2 ck122_3 ck122_4 ck122_5 ck122_6 ck122_7 ck122_8
      (with_reducible refine (ux.eqReassemblyS F133.out.rd F139.out.rd).mono ?_)
      rintro e w145 hp
      obtain ⟨rfl, hb⟩ := bx.b_parts rfl hp
      clear hp
      have B146 := Lib.hid (B135.out.trans (hb.mono B135.out.size))
      have Z147 := Lib.hid hb.size
      have F148 := Lib.hid (F137.out.below hb)
      have F149 := Lib.hid (F138.out.below hb)
      have F150 := Lib.hid (F139.out.below hb)
      have F151 := Lib.hid (F140.out.below hb)
      have F152 := Lib.hid (F141.out.below hb)
      have F153 := Lib.hid (F142.out.below hb)
      have F154 := Lib.hid (F133.out.below hb)
      have F155 := Lib.hid (F134.out.below hb)
      have F156 := Lib.hid (F143.out.below hb)
      have F157 := Lib.hid (F144.out.below hb)
      clear hb B135 F137 F138 F139 F140 F141 F142 F133 F134 F143 F144
      have ck10_0 : (w145).cell? ⟨w.heap.size, 0, none⟩ = some (.int .i64 f.Kind) := F156.out.cell 0
      have ck10_1 : (w145).cell? ⟨w.heap.size, 1, none⟩ = some (.int .i64 f.From) := F156.out.cell 1
      have ck10_2 : (w145).cell? ⟨w.heap.size, 2, none⟩ = some (.int .i64 f.To) := F156.out.cell 2
      have ck10_3 : (w145).cell? ⟨w.heap.size, 3, none⟩ = some (.int .i64 f.Seq) := F156.out.cell 3
      have ck10_4 : (w145).cell? ⟨w.heap.size, 4, none⟩ = some (.int .i64 f.Fragment) := F156.out.cell 4
      have ck10_5 : (w145).cell? ⟨w.heap.size, 5, none⟩ = some (.bool f.More) := F156.out.cell 5
      have ck10_6 : (w145).cell? ⟨w.heap.size, 6, none⟩ = some (.bool f.Retry) := F156.out.cell 6
      have ck10_7 : (w145).cell? ⟨w.heap.size, 7, none⟩ = some (.int .i64 f.Duration) := F156.out.cell 7
      have ck10_8 : (w145).cell? ⟨w.heap.size, 8, none⟩ = some (.slice Af nf cf) := F156.out.cell 8
      have ck122_0 : (w145).cell? ⟨w95.heap.size, 0, none⟩ = some (.int .i64 f.Kind) := F157.out.cell 0
      have ck122_1 : (w145).cell? ⟨w95.heap.size, 1, none⟩ = some (.int .i64 f.From) := F157.out.cell 1
      have ck122_2 : (w145).cell? ⟨w95.heap.size, 2, none⟩ = some (.int .i64 f.To) := F157.out.cell 2
      have ck122_3 : (w145).cell? ⟨w95.heap.size, 3, none⟩ = some (.int .i64 f.Seq) := F157.out.cell 3
      have ck122_4 : (w145).cell? ⟨w95.heap.size, 4, none⟩ = some (.int .i64 f.Fragment) := F157.out.cell 4
      have ck122_5 : (w145).cell? ⟨w95.heap.size, 5, none⟩ = some (.bool f.More) := F157.out.cell 5
      have ck122_6 : (w145).cell? ⟨w95.heap.size, 6, none⟩ = some (.bool f.Retry) := F157.out.cell 6
      have ck122_7 : (w145).cell? ⟨w95.heap.size, 7, none⟩ = some (.int .i64 f.Duration) := F157.out.cell 7
      have ck122_8 : (w145).cell? ⟨w95.heap.size, 8, none⟩ = some (.slice A96 n97 c98) := F157.out.cell 8
      go_wp2_with fail
      clear ck10_0 ck10_1 ck10_2 ck10_3 ck10_4 ck10_5 ck10_6 ck10_7 ck10_8 ck122_0 ck122_1 ck122_2 ck122_3 ck122_4 ck122_5 ck122_6 ck122_7 ck122_8
      (with_reducible refine (ux.eqByteS F155.out.rd F151.out.rd).mono ?_)
      rintro e w158 hp
      obtain ⟨rfl, hb⟩ := bx.b_parts rfl hp
      clear hp
      have B159 := Lib.hid (B146.out.trans (hb.mono B146.out.size))
      have Z160 := Lib.hid hb.size
      have F161 := Lib.hid (F148.out.below hb)
      have F162 := Lib.hid (F149.out.below hb)
      have F163 := Lib.hid (F150.out.below hb)
      have F164 := Lib.hid (F151.out.below hb)
      have F165 := Lib.hid (F152.out.below hb)
      have F166 := Lib.hid (F153.out.below hb)
      have F167 := Lib.hid (F154.out.below hb)
      have F168 := Lib.hid (F155.out.below hb)
      have F169 := Lib.hid (F156.out.below hb)
      have F170 := Lib.hid (F157.out.below hb)
      clear hb B146 F148 F149 F150 F151 F152 F153 F154 F155 F156 F157
      have ck10_0 : (w158).cell? ⟨w.heap.size, 0, none⟩ = some (.int .i64 f.Kind) := F169.out.cell 0
      have ck10_1 : (w158).cell? ⟨w.heap.size, 1, none⟩ = some (.int .i64 f.From) := F169.out.cell 1
      have ck10_2 : (w158).cell? ⟨w.heap.size, 2, none⟩ = some (.int .i64 f.To) := F169.out.cell 2
      have ck10_3 : (w158).cell? ⟨w.heap.size, 3, none⟩ = some (.int .i64 f.Seq) := F169.out.cell 3
      have ck10_4 : (w158).cell? ⟨w.heap.size, 4, none⟩ = some (.int .i64 f.Fragment) := F169.out.cell 4
      have ck10_5 : (w158).cell? ⟨w.heap.size, 5, none⟩ = some (.bool f.More) := F169.out.cell 5
      have ck10_6 : (w158).cell? ⟨w.heap.size, 6, none⟩ = some (.bool f.Retry) := F169.out.cell 6
      have ck10_7 : (w158).cell? ⟨w.heap.size, 7, none⟩ = some (.int .i64 f.Duration) := F169.out.cell 7
      have ck10_8 : (w158).cell? ⟨w.heap.size, 8, none⟩ = some (.slice Af nf cf) := F169.out.cell 8
      have ck122_0 : (w158).cell? ⟨w95.heap.size, 0, none⟩ = some (.int .i64 f.Kind) := F170.out.cell 0
      have ck122_1 : (w158).cell? ⟨w95.heap.size, 1, none⟩ = some (.int .i64 f.From) := F170.out.cell 1
      have ck122_2 : (w158).cell? ⟨w95.heap.size, 2, none⟩ = some (.int .i64 f.To) := F170.out.cell 2
      have ck122_3 : (w158).cell? ⟨w95.heap.size, 3, none⟩ = some (.int .i64 f.Seq) := F170.out.cell 3
      have ck122_4 : (w158).cell? ⟨w95.heap.size, 4, none⟩ = some (.int .i64 f.Fragment) := F170.out.cell 4
      have ck122_5 : (w158).cell? ⟨w95.heap.size, 5, none⟩ = some (.bool f.More) := F170.out.cell 5
      have ck122_6 : (w158).cell? ⟨w95.heap.size, 6, none⟩ = some (.bool f.Retry) := F170.out.cell 6
      have ck122_7 : (w158).cell? ⟨w95.heap.size, 7, none⟩ = some (.int .i64 f.Duration) := F170.out.cell 7
      have ck122_8 : (w158).cell? ⟨w95.heap.size, 8, none⟩ = some (.slice A96 n97 c98) := F170.out.cell 8
      go_wp2_with fail
      clear ck10_0 ck10_1 ck10_2 ck10_3 ck10_4 ck10_5 ck10_6 ck10_7 ck10_8 ck122_0 ck122_1 ck122_2 ck122_3 ck122_4 ck122_5 ck122_6 ck122_7 ck122_8
      (with_reducible refine (ux.toReassemblyS F161.out S20.out).mono ?_)
      rintro e w171 hp
      obtain ⟨v176, fp175, rfl, ho, hb⟩ := hp.parts
      clear hp
      obtain ⟨A172, n173, c174, rfl⟩ := ux.rowRea_slo ho.1
      have F177 := Lib.hid ho
      clear ho
      have B178 := Lib.hid (B159.out.trans (hb.mono B159.out.size))
      have Z179 := Lib.hid hb.size
      have F180 := Lib.hid (F161.out.below hb)
      have F181 := Lib.hid (F162.out.below hb)
      have F182 := Lib.hid (F163.out.below hb)
      have F183 := Lib.hid (F164.out.below hb)
      have F184 := Lib.hid (F165.out.below hb)
      have F185 := Lib.hid (F166.out.below hb)
      have F186 := Lib.hid (F167.out.below hb)
      have F187 := Lib.hid (F168.out.below hb)
      have F188 := Lib.hid (F169.out.below hb)
      have F189 := Lib.hid (F170.out.below hb)
      clear hb B159 F161 F162 F163 F164 F165 F166 F167 F168 F169 F170
      have ck10_0 : (w171).cell? ⟨w.heap.size, 0, none⟩ = some (.int .i64 f.Kind) := F188.out.cell 0
      have ck10_1 : (w171).cell? ⟨w.heap.size, 1, none⟩ = some (.int .i64 f.From) := F188.out.cell 1
      have ck10_2 : (w171).cell? ⟨w.heap.size, 2, none⟩ = some (.int .i64 f.To) := F188.out.cell 2
      have ck10_3 : (w171).cell? ⟨w.heap.size, 3, none⟩ = some (.int .i64 f.Seq) := F188.out.cell 3
      have ck10_4 : (w171).cell? ⟨w.heap.size, 4, none⟩ = some (.int .i64 f.Fragment) := F188.out.cell 4
      have ck10_5 : (w171).cell? ⟨w.heap.size, 5, none⟩ = some (.bool f.More) := F188.out.cell 5
      have ck10_6 : (w171).cell? ⟨w.heap.size, 6, none⟩ = some (.bool f.Retry) := F188.out.cell 6
      have ck10_7 : (w171).cell? ⟨w.heap.size, 7, none⟩ = some (.int .i64 f.Duration) := F188.out.cell 7
      have ck10_8 : (w171).cell? ⟨w.heap.size, 8, none⟩ = some (.slice Af nf cf) := F188.out.cell 8
      have ck122_0 : (w171).cell? ⟨w95.heap.size, 0, none⟩ = some (.int .i64 f.Kind) := F189.out.cell 0
      have ck122_1 : (w171).cell? ⟨w95.heap.size, 1, none⟩ = some (.int .i64 f.From) := F189.out.cell 1
      have ck122_2 : (w171).cell? ⟨w95.heap.size, 2, none⟩ = some (.int .i64 f.To) := F189.out.cell 2
      have ck122_3 : (w171).cell? ⟨w95.heap.size, 3, none⟩ = some (.int .i64 f.Seq) := F189.out.cell 3
      have ck122_4 : (w171).cell? ⟨w95.heap.size, 4, none⟩ = some (.int .i64 f.Fragment) := F189.out.cell 4
      have ck122_5 : (w171).cell? ⟨w95.heap.size, 5, none⟩ = some (.bool f.More) := F189.out.cell 5
      have ck122_6 : (w171).cell? ⟨w95.heap.size, 6, none⟩ = some (.bool f.Retry) := F189.out.cell 6
      have ck122_7 : (w171).cell? ⟨w95.heap.size, 7, none⟩ = some (.int .i64 f.Duration) := F189.out.cell 7
      have ck122_8 : (w171).cell? ⟨w95.heap.size, 8, none⟩ = some (.slice A96 n97 c98) := F189.out.cell 8
      go_wp2_with fail
      clear ck10_0 ck10_1 ck10_2 ck10_3 ck10_4 ck10_5 ck10_6 ck10_7 ck10_8 ck122_0 ck122_1 ck122_2 ck122_3 ck122_4 ck122_5 ck122_6 ck122_7 ck122_8
      (with_reducible refine (ux.eqReassemblyS F184.out.rd F177.out.rd).mono ?_)
      rintro e w190 hp
      obtain ⟨rfl, hb⟩ := bx.b_parts rfl hp
      clear hp
      have B191 := Lib.hid (B178.out.trans (hb.mono B178.out.size))
      have Z192 := Lib.hid hb.size
      have F193 := Lib.hid (F180.out.below hb)
      have F194 := Lib.hid (F181.out.below hb)
      have F195 := Lib.hid (F182.out.below hb)
      have F196 := Lib.hid (F183.out.below hb)
      have F197 := Lib.hid (F184.out.below hb)
      have F198 := Lib.hid (F185.out.below hb)
      have F199 := Lib.hid (F186.out.below hb)
      have F200 := Lib.hid (F187.out.below hb)
      have F201 := Lib.hid (F177.out.below hb)
      have F202 := Lib.hid (F188.out.below hb)
      have F203 := Lib.hid (F189.out.below hb)
      clear hb B178 F180 F181 F182 F183 F184 F185 F186 F187 F177 F188 F189
      clear F201
      have ck10_0 : (w190).cell? ⟨w.heap.size, 0, none⟩ = some (.int .i64 f.Kind) := F202.out.cell 0
      have ck10_1 : (w190).cell? ⟨w.heap.size, 1, none⟩ = some (.int .i64 f.From) := F202.out.cell 1
      have ck10_2 : (w190).cell? ⟨w.heap.size, 2, none⟩ = some (.int .i64 f.To) := F202.out.cell 2
      have ck10_3 : (w190).cell? ⟨w.heap.size, 3, none⟩ = some (.int .i64 f.Seq) := F202.out.cell 3
      have ck10_4 : (w190).cell? ⟨w.heap.size, 4, none⟩ = some (.int .i64 f.Fragment) := F202.out.cell 4
      have ck10_5 : (w190).cell? ⟨w.heap.size, 5, none⟩ = some (.bool f.More) := F202.out.cell 5
      have ck10_6 : (w190).cell? ⟨w.heap.size, 6, none⟩ = some (.bool f.Retry) := F202.out.cell 6
      have ck10_7 : (w190).cell? ⟨w.heap.size, 7, none⟩ = some (.int .i64 f.Duration) := F202.out.cell 7
      have ck10_8 : (w190).cell? ⟨w.heap.size, 8, none⟩ = some (.slice Af nf cf) := F202.out.cell 8
      have ck122_0 : (w190).cell? ⟨w95.heap.size, 0, none⟩ = some (.int .i64 f.Kind) := F203.out.cell 0
      have ck122_1 : (w190).cell? ⟨w95.heap.size, 1, none⟩ = some (.int .i64 f.From) := F203.out.cell 1
      have ck122_2 : (w190).cell? ⟨w95.heap.size, 2, none⟩ = some (.int .i64 f.To) := F203.out.cell 2
      have ck122_3 : (w190).cell? ⟨w95.heap.size, 3, none⟩ = some (.int .i64 f.Seq) := F203.out.cell 3
      have ck122_4 : (w190).cell? ⟨w95.heap.size, 4, none⟩ = some (.int .i64 f.Fragment) := F203.out.cell 4
      have ck122_5 : (w190).cell? ⟨w95.heap.size, 5, none⟩ = some (.bool f.More) := F203.out.cell 5
      have ck122_6 : (w190).cell? ⟨w95.heap.size, 6, none⟩ = some (.bool f.Retry) := F203.out.cell 6
      have ck122_7 : (w190).cell? ⟨w95.heap.size, 7, none⟩ = some (.int .i64 f.Duration) := F203.out.cell 7
      have ck122_8 : (w190).cell? ⟨w95.heap.size, 8, none⟩ = some (.slice A96 n97 c98) := F203.out.cell 8
      go_wp2_with fail
      clear ck10_0 ck10_1 ck10_2 ck10_3 ck10_4 ck10_5 ck10_6 ck10_7 ck10_8 ck122_0 ck122_1 ck122_2 ck122_3 ck122_4 ck122_5 ck122_6 ck122_7 ck122_8
      have hb : Below w190.heap.size w190 w190.drew := own.below_drew (Below.refl _ _)
      have B204 := Lib.hid (B191.out.trans (hb.mono B191.out.size))
      have Z205 := Lib.hid hb.size
      have F206 := Lib.hid (F193.out.below hb)
      have F207 := Lib.hid (F194.out.below hb)
      have F208 := Lib.hid (F195.out.below hb)
      have F209 := Lib.hid (F196.out.below hb)
      have F210 := Lib.hid (F197.out.below hb)
      have F211 := Lib.hid (F198.out.below hb)
      have F212 := Lib.hid (F199.out.below hb)
      have F213 := Lib.hid (F200.out.below hb)
      have F214 := Lib.hid (F202.out.below hb)
      have F215 := Lib.hid (F203.out.below hb)
      clear hb B191 F193 F194 F195 F196 F197 F198 F199 F200 F202 F203
      have cak122_0 : (w190.drew).cell? ⟨w95.heap.size, 0, none⟩ = some (.int .i64 f.Kind) := F215.out.cell 0
      have cak122_1 : (w190.drew).cell? ⟨w95.heap.size, 1, none⟩ = some (.int .i64 f.From) := F215.out.cell 1
      have cak122_2 : (w190.drew).cell? ⟨w95.heap.size, 2, none⟩ = some (.int .i64 f.To) := F215.out.cell 2
      have cak122_3 : (w190.drew).cell? ⟨w95.heap.size, 3, none⟩ = some (.int .i64 f.Seq) := F215.out.cell 3
      have cak122_4 : (w190.drew).cell? ⟨w95.heap.size, 4, none⟩ = some (.int .i64 f.Fragment) := F215.out.cell 4
      have cak122_5 : (w190.drew).cell? ⟨w95.heap.size, 5, none⟩ = some (.bool f.More) := F215.out.cell 5
      have cak122_6 : (w190.drew).cell? ⟨w95.heap.size, 6, none⟩ = some (.bool f.Retry) := F215.out.cell 6
      have cak122_7 : (w190.drew).cell? ⟨w95.heap.size, 7, none⟩ = some (.int .i64 f.Duration) := F215.out.cell 7
      have cak122_8 : (w190.drew).cell? ⟨w95.heap.size, 8, none⟩ = some (.slice A96 n97 c98) := F215.out.cell 8
      have cak10_0 : (w190.drew).cell? ⟨w.heap.size, 0, none⟩ = some (.int .i64 f.Kind) := F214.out.cell 0
      have cak10_1 : (w190.drew).cell? ⟨w.heap.size, 1, none⟩ = some (.int .i64 f.From) := F214.out.cell 1
      have cak10_2 : (w190.drew).cell? ⟨w.heap.size, 2, none⟩ = some (.int .i64 f.To) := F214.out.cell 2
      have cak10_3 : (w190.drew).cell? ⟨w.heap.size, 3, none⟩ = some (.int .i64 f.Seq) := F214.out.cell 3
      have cak10_4 : (w190.drew).cell? ⟨w.heap.size, 4, none⟩ = some (.int .i64 f.Fragment) := F214.out.cell 4
      have cak10_5 : (w190.drew).cell? ⟨w.heap.size, 5, none⟩ = some (.bool f.More) := F214.out.cell 5
      have cak10_6 : (w190.drew).cell? ⟨w.heap.size, 6, none⟩ = some (.bool f.Retry) := F214.out.cell 6
      have cak10_7 : (w190.drew).cell? ⟨w.heap.size, 7, none⟩ = some (.int .i64 f.Duration) := F214.out.cell 7
      have cak10_8 : (w190.drew).cell? ⟨w.heap.size, 8, none⟩ = some (.slice Af nf cf) := F214.out.cell 8
      go_region_held3 (fun w' => w'.cell? ⟨w95.heap.size, 0, none⟩ = some (.int .i64 f.Kind) ∧ w'.cell? ⟨w95.heap.size, 1, none⟩ = some (.int .i64 f.From) ∧ w'.cell? ⟨w95.heap.size, 2, none⟩ = some (.int .i64 f.To) ∧ w'.cell? ⟨w95.heap.size, 3, none⟩ = some (.int .i64 f.Seq) ∧ w'.cell? ⟨w95.heap.size, 4, none⟩ = some (.int .i64 f.Fragment) ∧ w'.cell? ⟨w95.heap.size, 5, none⟩ = some (.bool f.More) ∧ w'.cell? ⟨w95.heap.size, 6, none⟩ = some (.bool f.Retry) ∧ w'.cell? ⟨w95.heap.size, 7, none⟩ = some (.int .i64 f.Duration) ∧ w'.cell? ⟨w95.heap.size, 8, none⟩ = some (.slice A96 n97 c98) ∧ w'.cell? ⟨w.heap.size, 0, none⟩ = some (.int .i64 f.Kind) ∧ w'.cell? ⟨w.heap.size, 1, none⟩ = some (.int .i64 f.From) ∧ w'.cell? ⟨w.heap.size, 2, none⟩ = some (.int .i64 f.To) ∧ w'.cell? ⟨w.heap.size, 3, none⟩ = some (.int .i64 f.Seq) ∧ w'.cell? ⟨w.heap.size, 4, none⟩ = some (.int .i64 f.Fragment) ∧ w'.cell? ⟨w.heap.size, 5, none⟩ = some (.bool f.More) ∧ w'.cell? ⟨w.heap.size, 6, none⟩ = some (.bool f.Retry) ∧ w'.cell? ⟨w.heap.size, 7, none⟩ = some (.int .i64 f.Duration) ∧ w'.cell? ⟨w.heap.size, 8, none⟩ = some (.slice Af nf cf)) (first | (with_reducible exact ⟨cak122_0, cak122_1, cak122_2, cak122_3, cak122_4, cak122_5, cak122_6, cak122_7, cak122_8, cak10_0, cak10_1, cak10_2, cak10_3, cak10_4, cak10_5, cak10_6, cak10_7, cak10_8⟩) | (with_reducible exact ⟨cbk122_0, cbk122_1, cbk122_2, cbk122_3, cbk122_4, cbk122_5, cbk122_6, cbk122_7, cbk122_8, cbk10_0, cbk10_1, cbk10_2, cbk10_3, cbk10_4, cbk10_5, cbk10_6, cbk10_7, cbk10_8⟩) | (with_reducible exact ⟨cdk122_0, cdk122_1, cdk122_2, cdk122_3, cdk122_4, cdk122_5, cdk122_6, cdk122_7, cdk122_8, cdk10_0, cdk10_1, cdk10_2, cdk10_3, cdk10_4, cdk10_5, cdk10_6, cdk10_7, cdk10_8⟩))
        (first
        | (go_at_call 38; refine (ux.toMacFrame F207.out S31.out).mono ?_; rintro e w216 hp; obtain ⟨v221, fp220, rfl, ho, hb⟩ := hp.parts; clear hp; obtain ⟨A217, n218, c219, f9, rfl, _, _, _⟩ := ux.fra_o ho; have F222 := Lib.hid ho; clear ho; have B223 := Lib.hid (B204.out.trans (hb.mono B204.out.size)); have Z224 := Lib.hid hb.size; have F225 := Lib.hid (F206.out.below hb); have F226 := Lib.hid (F207.out.below hb); have F227 := Lib.hid (F208.out.below hb); have F228 := Lib.hid (F209.out.below hb); have F229 := Lib.hid (F210.out.below hb); have F230 := Lib.hid (F211.out.below hb); have F231 := Lib.hid (F212.out.below hb); have F232 := Lib.hid (F213.out.below hb); have F233 := Lib.hid (F214.out.below hb); have F234 := Lib.hid (F215.out.below hb); clear hb B204 F206 F207 F208 F209 F210 F211 F212 F213 F214 F215; have cbk122_0 : (w216).cell? ⟨w95.heap.size, 0, none⟩ = some (.int .i64 f.Kind) := F234.out.cell 0; have cbk122_1 : (w216).cell? ⟨w95.heap.size, 1, none⟩ = some (.int .i64 f.From) := F234.out.cell 1; have cbk122_2 : (w216).cell? ⟨w95.heap.size, 2, none⟩ = some (.int .i64 f.To) := F234.out.cell 2; have cbk122_3 : (w216).cell? ⟨w95.heap.size, 3, none⟩ = some (.int .i64 f.Seq) := F234.out.cell 3; have cbk122_4 : (w216).cell? ⟨w95.heap.size, 4, none⟩ = some (.int .i64 f.Fragment) := F234.out.cell 4; have cbk122_5 : (w216).cell? ⟨w95.heap.size, 5, none⟩ = some (.bool f.More) := F234.out.cell 5; have cbk122_6 : (w216).cell? ⟨w95.heap.size, 6, none⟩ = some (.bool f.Retry) := F234.out.cell 6; have cbk122_7 : (w216).cell? ⟨w95.heap.size, 7, none⟩ = some (.int .i64 f.Duration) := F234.out.cell 7; have cbk122_8 : (w216).cell? ⟨w95.heap.size, 8, none⟩ = some (.slice A96 n97 c98) := F234.out.cell 8; have cbk10_0 : (w216).cell? ⟨w.heap.size, 0, none⟩ = some (.int .i64 f.Kind) := F233.out.cell 0; have cbk10_1 : (w216).cell? ⟨w.heap.size, 1, none⟩ = some (.int .i64 f.From) := F233.out.cell 1; have cbk10_2 : (w216).cell? ⟨w.heap.size, 2, none⟩ = some (.int .i64 f.To) := F233.out.cell 2; have cbk10_3 : (w216).cell? ⟨w.heap.size, 3, none⟩ = some (.int .i64 f.Seq) := F233.out.cell 3; have cbk10_4 : (w216).cell? ⟨w.heap.size, 4, none⟩ = some (.int .i64 f.Fragment) := F233.out.cell 4; have cbk10_5 : (w216).cell? ⟨w.heap.size, 5, none⟩ = some (.bool f.More) := F233.out.cell 5; have cbk10_6 : (w216).cell? ⟨w.heap.size, 6, none⟩ = some (.bool f.Retry) := F233.out.cell 6; have cbk10_7 : (w216).cell? ⟨w.heap.size, 7, none⟩ = some (.int .i64 f.Duration) := F233.out.cell 7; have cbk10_8 : (w216).cell? ⟨w.heap.size, 8, none⟩ = some (.slice Af nf cf) := F233.out.cell 8)
        | (go_at_call 40; refine (ux.eqMacFrame F230.out.rd F222.out.rd).mono ?_; rintro e w235 hp; obtain ⟨rfl, hb⟩ := bx.b_parts rfl hp; clear hp; have B236 := Lib.hid (B223.out.trans (hb.mono B223.out.size)); have Z237 := Lib.hid hb.size; have F238 := Lib.hid (F225.out.below hb); have F239 := Lib.hid (F226.out.below hb); have F240 := Lib.hid (F227.out.below hb); have F241 := Lib.hid (F228.out.below hb); have F242 := Lib.hid (F229.out.below hb); have F243 := Lib.hid (F230.out.below hb); have F244 := Lib.hid (F231.out.below hb); have F245 := Lib.hid (F232.out.below hb); have F246 := Lib.hid (F222.out.below hb); have F247 := Lib.hid (F233.out.below hb); have F248 := Lib.hid (F234.out.below hb); clear hb B223 F225 F226 F227 F228 F229 F230 F231 F232 F222 F233 F234; have cdk122_0 : (w235).cell? ⟨w95.heap.size, 0, none⟩ = some (.int .i64 f.Kind) := F248.out.cell 0; have cdk122_1 : (w235).cell? ⟨w95.heap.size, 1, none⟩ = some (.int .i64 f.From) := F248.out.cell 1; have cdk122_2 : (w235).cell? ⟨w95.heap.size, 2, none⟩ = some (.int .i64 f.To) := F248.out.cell 2; have cdk122_3 : (w235).cell? ⟨w95.heap.size, 3, none⟩ = some (.int .i64 f.Seq) := F248.out.cell 3; have cdk122_4 : (w235).cell? ⟨w95.heap.size, 4, none⟩ = some (.int .i64 f.Fragment) := F248.out.cell 4; have cdk122_5 : (w235).cell? ⟨w95.heap.size, 5, none⟩ = some (.bool f.More) := F248.out.cell 5; have cdk122_6 : (w235).cell? ⟨w95.heap.size, 6, none⟩ = some (.bool f.Retry) := F248.out.cell 6; have cdk122_7 : (w235).cell? ⟨w95.heap.size, 7, none⟩ = some (.int .i64 f.Duration) := F248.out.cell 7; have cdk122_8 : (w235).cell? ⟨w95.heap.size, 8, none⟩ = some (.slice A96 n97 c98) := F248.out.cell 8; have cdk10_0 : (w235).cell? ⟨w.heap.size, 0, none⟩ = some (.int .i64 f.Kind) := F247.out.cell 0; have cdk10_1 : (w235).cell? ⟨w.heap.size, 1, none⟩ = some (.int .i64 f.From) := F247.out.cell 1; have cdk10_2 : (w235).cell? ⟨w.heap.size, 2, none⟩ = some (.int .i64 f.To) := F247.out.cell 2; have cdk10_3 : (w235).cell? ⟨w.heap.size, 3, none⟩ = some (.int .i64 f.Seq) := F247.out.cell 3; have cdk10_4 : (w235).cell? ⟨w.heap.size, 4, none⟩ = some (.int .i64 f.Fragment) := F247.out.cell 4; have cdk10_5 : (w235).cell? ⟨w.heap.size, 5, none⟩ = some (.bool f.More) := F247.out.cell 5; have cdk10_6 : (w235).cell? ⟨w.heap.size, 6, none⟩ = some (.bool f.Retry) := F247.out.cell 6; have cdk10_7 : (w235).cell? ⟨w.heap.size, 7, none⟩ = some (.int .i64 f.Duration) := F247.out.cell 7; have cdk10_8 : (w235).cell? ⟨w.heap.size, 8, none⟩ = some (.slice Af nf cf) := F247.out.cell 8))
      clear cak122_0 cak122_1 cak122_2 cak122_3 cak122_4 cak122_5 cak122_6 cak122_7 cak122_8 cak10_0 cak10_1 cak10_2 cak10_3 cak10_4 cak10_5 cak10_6 cak10_7 cak10_8 cbk122_0 cbk122_1 cbk122_2 cbk122_3 cbk122_4 cbk122_5 cbk122_6 cbk122_7 cbk122_8 cbk10_0 cbk10_1 cbk10_2 cbk10_3 cbk10_4 cbk10_5 cbk10_6 cbk10_7 cbk10_8 cdk122_0 cdk122_1 cdk122_2 cdk122_3 cdk122_4 cdk122_5 cdk122_6 cdk122_7 cdk122_8 cdk10_0 cdk10_1 cdk10_2 cdk10_3 cdk10_4 cdk10_5 cdk10_6 cdk10_7 cdk10_8
      clear F246
      have ck10_0 : (w235).cell? ⟨w.heap.size, 0, none⟩ = some (.int .i64 f.Kind) := F247.out.cell 0
      have ck10_1 : (w235).cell? ⟨w.heap.size, 1, none⟩ = some (.int .i64 f.From) := F247.out.cell 1
      have ck10_2 : (w235).cell? ⟨w.heap.size, 2, none⟩ = some (.int .i64 f.To) := F247.out.cell 2
      have ck10_3 : (w235).cell? ⟨w.heap.size, 3, none⟩ = some (.int .i64 f.Seq) := F247.out.cell 3
      have ck10_4 : (w235).cell? ⟨w.heap.size, 4, none⟩ = some (.int .i64 f.Fragment) := F247.out.cell 4
      have ck10_5 : (w235).cell? ⟨w.heap.size, 5, none⟩ = some (.bool f.More) := F247.out.cell 5
      have ck10_6 : (w235).cell? ⟨w.heap.size, 6, none⟩ = some (.bool f.Retry) := F247.out.cell 6
      have ck10_7 : (w235).cell? ⟨w.heap.size, 7, none⟩ = some (.int .i64 f.Duration) := F247.out.cell 7
      have ck10_8 : (w235).cell? ⟨w.heap.size, 8, none⟩ = some (.slice Af nf cf) := F247.out.cell 8
      have ck122_0 : (w235).cell? ⟨w95.heap.size, 0, none⟩ = some (.int .i64 f.Kind) := F248.out.cell 0
      have ck122_1 : (w235).cell? ⟨w95.heap.size, 1, none⟩ = some (.int .i64 f.From) := F248.out.cell 1
      have ck122_2 : (w235).cell? ⟨w95.heap.size, 2, none⟩ = some (.int .i64 f.To) := F248.out.cell 2
      have ck122_3 : (w235).cell? ⟨w95.heap.size, 3, none⟩ = some (.int .i64 f.Seq) := F248.out.cell 3
      have ck122_4 : (w235).cell? ⟨w95.heap.size, 4, none⟩ = some (.int .i64 f.Fragment) := F248.out.cell 4
      have ck122_5 : (w235).cell? ⟨w95.heap.size, 5, none⟩ = some (.bool f.More) := F248.out.cell 5
      have ck122_6 : (w235).cell? ⟨w95.heap.size, 6, none⟩ = some (.bool f.Retry) := F248.out.cell 6
      have ck122_7 : (w235).cell? ⟨w95.heap.size, 7, none⟩ = some (.int .i64 f.Duration) := F248.out.cell 7
      have ck122_8 : (w235).cell? ⟨w95.heap.size, 8, none⟩ = some (.slice A96 n97 c98) := F248.out.cell 8
      go_wp2_with fail
      clear ck10_0 ck10_1 ck10_2 ck10_3 ck10_4 ck10_5 ck10_6 ck10_7 ck10_8 ck122_0 ck122_1 ck122_2 ck122_3 ck122_4 ck122_5 ck122_6 ck122_7 ck122_8
      (with_reducible refine (ux.markReassemblyS 1 F242.out (by have h1 := fr.rowRea_bd x0; have h2 := (show (0:Int) ≤ 1 ∧ (1:Int) ≤ 4294967360 by omega); have h3 := S20.out; omega) S20.out).mono ?_)
      rintro e w249 hp
      obtain ⟨rfl, ho, hb⟩ := hp.parts
      clear hp
      obtain ⟨k1, hk9⟩ : ∃ k : Int, 1 + (ux.rowRea.tot x0 : Nat) = k := ⟨_, rfl⟩
      have Hk1 := Lib.hid hk9
      have Kk1 := Lib.hid (show 0 ≤ k1 ∧ k1 ≤ 1 + 4294967360 by have h1 := fr.rowRea_bd x0; have h2 := (show (0:Int) ≤ 1 ∧ (1:Int) ≤ 4294967360 by omega); have h3 := S20.out; omega)
      have ngk1 : ¬ k1 < 0 := by have := Kk1.out; omega
      (first | rw [hk9] | (change Code.wp _ _ _ _ _; rw [hk9]) | skip)
      clear hk9
      have F250 := Lib.hid ho
      clear ho
      have B251 := Lib.hid (B236.out.trans (ux.ks_bel hb (fun b hb => by have z0 := Z4.out; have z1 := Z6.out; have z2 := Z15.out; have z3 := Z26.out; have z4 := Z34.out; have z5 := Z46.out; have z6 := Z58.out; have z7 := Z75.out; have z8 := Z89.out; have z9 := Z103.out; have z10 := Z111.out; have z11 := Z113.out; have z12 := Z136.out; have z13 := Z147.out; have z14 := Z160.out; have z15 := Z179.out; have z16 := Z192.out; have z17 := Z205.out; have z18 := Z224.out; have z19 := Z237.out; have zB := B236.out.size; have := F250.out.inn b hb; omega) B236.out.size))
      have Z252 := Lib.hid hb.size
      have F253 := Lib.hid (F238.out.ks hb (fun b h1 h2 h3 => by have z0 := Z4.out; have z1 := Z6.out; have z2 := Z15.out; have z3 := Z26.out; have z4 := Z34.out; have z5 := Z46.out; have z6 := Z58.out; have z7 := Z75.out; have z8 := Z89.out; have z9 := Z103.out; have z10 := Z111.out; have z11 := Z113.out; have z12 := Z136.out; have z13 := Z147.out; have z14 := Z160.out; have z15 := Z179.out; have z16 := Z192.out; have z17 := Z205.out; have z18 := Z224.out; have z19 := Z237.out; have z20 := Z252.out; have q2 := F250.out.inn b h3; omega))
      have F254 := Lib.hid (F239.out.ks hb (fun b h1 h2 h3 => by have z0 := Z4.out; have z1 := Z6.out; have z2 := Z15.out; have z3 := Z26.out; have z4 := Z34.out; have z5 := Z46.out; have z6 := Z58.out; have z7 := Z75.out; have z8 := Z89.out; have z9 := Z103.out; have z10 := Z111.out; have z11 := Z113.out; have z12 := Z136.out; have z13 := Z147.out; have z14 := Z160.out; have z15 := Z179.out; have z16 := Z192.out; have z17 := Z205.out; have z18 := Z224.out; have z19 := Z237.out; have z20 := Z252.out; have q2 := F250.out.inn b h3; omega))
      have F255 := Lib.hid (F240.out.ks hb (fun b h1 h2 => by have z0 := Z4.out; have z1 := Z6.out; have z2 := Z15.out; have z3 := Z26.out; have z4 := Z34.out; have z5 := Z46.out; have z6 := Z58.out; have z7 := Z75.out; have z8 := Z89.out; have z9 := Z103.out; have z10 := Z111.out; have z11 := Z113.out; have z12 := Z136.out; have z13 := Z147.out; have z14 := Z160.out; have z15 := Z179.out; have z16 := Z192.out; have z17 := Z205.out; have z18 := Z224.out; have z19 := Z237.out; have z20 := Z252.out; have q1 := F240.out.inn b h1; have q2 := F250.out.inn b h2; omega))
      have F256 := Lib.hid (F241.out.ks hb (fun b h1 h2 => by have z0 := Z4.out; have z1 := Z6.out; have z2 := Z15.out; have z3 := Z26.out; have z4 := Z34.out; have z5 := Z46.out; have z6 := Z58.out; have z7 := Z75.out; have z8 := Z89.out; have z9 := Z103.out; have z10 := Z111.out; have z11 := Z113.out; have z12 := Z136.out; have z13 := Z147.out; have z14 := Z160.out; have z15 := Z179.out; have z16 := Z192.out; have z17 := Z205.out; have z18 := Z224.out; have z19 := Z237.out; have z20 := Z252.out; have q1 := F241.out.inn b h1; have q2 := F250.out.inn b h2; omega))
      have F257 := Lib.hid (F243.out.ks hb (fun b h1 h2 => by have z0 := Z4.out; have z1 := Z6.out; have z2 := Z15.out; have z3 := Z26.out; have z4 := Z34.out; have z5 := Z46.out; have z6 := Z58.out; have z7 := Z75.out; have z8 := Z89.out; have z9 := Z103.out; have z10 := Z111.out; have z11 := Z113.out; have z12 := Z136.out; have z13 := Z147.out; have z14 := Z160.out; have z15 := Z179.out; have z16 := Z192.out; have z17 := Z205.out; have z18 := Z224.out; have z19 := Z237.out; have z20 := Z252.out; have q1 := F243.out.inn b h1; have q2 := F250.out.inn b h2; omega))
      have F258 := Lib.hid (F244.out.ks hb (fun b h1 h2 => by have z0 := Z4.out; have z1 := Z6.out; have z2 := Z15.out; have z3 := Z26.out; have z4 := Z34.out; have z5 := Z46.out; have z6 := Z58.out; have z7 := Z75.out; have z8 := Z89.out; have z9 := Z103.out; have z10 := Z111.out; have z11 := Z113.out; have z12 := Z136.out; have z13 := Z147.out; have z14 := Z160.out; have z15 := Z179.out; have z16 := Z192.out; have z17 := Z205.out; have z18 := Z224.out; have z19 := Z237.out; have z20 := Z252.out; have q1 := F244.out.inn b h1; have q2 := F250.out.inn b h2; omega))
      have F259 := Lib.hid (F245.out.ks hb (fun b h1 h2 => by have z0 := Z4.out; have z1 := Z6.out; have z2 := Z15.out; have z3 := Z26.out; have z4 := Z34.out; have z5 := Z46.out; have z6 := Z58.out; have z7 := Z75.out; have z8 := Z89.out; have z9 := Z103.out; have z10 := Z111.out; have z11 := Z113.out; have z12 := Z136.out; have z13 := Z147.out; have z14 := Z160.out; have z15 := Z179.out; have z16 := Z192.out; have z17 := Z205.out; have z18 := Z224.out; have z19 := Z237.out; have z20 := Z252.out; have q1 := F245.out.inn b h1; have q2 := F250.out.inn b h2; omega))
      have F260 := Lib.hid (fr.bx_ks F247.out hb (fun h3 => by have z0 := Z4.out; have z1 := Z6.out; have z2 := Z15.out; have z3 := Z26.out; have z4 := Z34.out; have z5 := Z46.out; have z6 := Z58.out; have z7 := Z75.out; have z8 := Z89.out; have z9 := Z103.out; have z10 := Z111.out; have z11 := Z113.out; have z12 := Z136.out; have z13 := Z147.out; have z14 := Z160.out; have z15 := Z179.out; have z16 := Z192.out; have z17 := Z205.out; have z18 := Z224.out; have z19 := Z237.out; have z20 := Z252.out; have q2 := F250.out.inn _ h3; omega))
      have F261 := Lib.hid (fr.bx_ks F248.out hb (fun h3 => by have z0 := Z4.out; have z1 := Z6.out; have z2 := Z15.out; have z3 := Z26.out; have z4 := Z34.out; have z5 := Z46.out; have z6 := Z58.out; have z7 := Z75.out; have z8 := Z89.out; have z9 := Z103.out; have z10 := Z111.out; have z11 := Z113.out; have z12 := Z136.out; have z13 := Z147.out; have z14 := Z160.out; have z15 := Z179.out; have z16 := Z192.out; have z17 := Z205.out; have z18 := Z224.out; have z19 := Z237.out; have z20 := Z252.out; have q2 := F250.out.inn _ h3; omega))
      clear hb B236 F238 F239 F240 F241 F243 F244 F245 F247 F248
      clear F242
      clear F250
      have ck10_0 : (w249).cell? ⟨w.heap.size, 0, none⟩ = some (.int .i64 f.Kind) := F260.out.cell 0
      have ck10_1 : (w249).cell? ⟨w.heap.size, 1, none⟩ = some (.int .i64 f.From) := F260.out.cell 1
      have ck10_2 : (w249).cell? ⟨w.heap.size, 2, none⟩ = some (.int .i64 f.To) := F260.out.cell 2
      have ck10_3 : (w249).cell? ⟨w.heap.size, 3, none⟩ = some (.int .i64 f.Seq) := F260.out.cell 3
      have ck10_4 : (w249).cell? ⟨w.heap.size, 4, none⟩ = some (.int .i64 f.Fragment) := F260.out.cell 4
      have ck10_5 : (w249).cell? ⟨w.heap.size, 5, none⟩ = some (.bool f.More) := F260.out.cell 5
      have ck10_6 : (w249).cell? ⟨w.heap.size, 6, none⟩ = some (.bool f.Retry) := F260.out.cell 6
      have ck10_7 : (w249).cell? ⟨w.heap.size, 7, none⟩ = some (.int .i64 f.Duration) := F260.out.cell 7
      have ck10_8 : (w249).cell? ⟨w.heap.size, 8, none⟩ = some (.slice Af nf cf) := F260.out.cell 8
      have ck122_0 : (w249).cell? ⟨w95.heap.size, 0, none⟩ = some (.int .i64 f.Kind) := F261.out.cell 0
      have ck122_1 : (w249).cell? ⟨w95.heap.size, 1, none⟩ = some (.int .i64 f.From) := F261.out.cell 1
      have ck122_2 : (w249).cell? ⟨w95.heap.size, 2, none⟩ = some (.int .i64 f.To) := F261.out.cell 2
      have ck122_3 : (w249).cell? ⟨w95.heap.size, 3, none⟩ = some (.int .i64 f.Seq) := F261.out.cell 3
      have ck122_4 : (w249).cell? ⟨w95.heap.size, 4, none⟩ = some (.int .i64 f.Fragment) := F261.out.cell 4
      have ck122_5 : (w249).cell? ⟨w95.heap.size, 5, none⟩ = some (.bool f.More) := F261.out.cell 5
      have ck122_6 : (w249).cell? ⟨w95.heap.size, 6, none⟩ = some (.bool f.Retry) := F261.out.cell 6
      have ck122_7 : (w249).cell? ⟨w95.heap.size, 7, none⟩ = some (.int .i64 f.Duration) := F261.out.cell 7
      have ck122_8 : (w249).cell? ⟨w95.heap.size, 8, none⟩ = some (.slice A96 n97 c98) := F261.out.cell 8
      go_wp2_with fail
      clear ck10_0 ck10_1 ck10_2 ck10_3 ck10_4 ck10_5 ck10_6 ck10_7 ck10_8 ck122_0 ck122_1 ck122_2 ck122_3 ck122_4 ck122_5 ck122_6 ck122_7 ck122_8
      (with_reducible refine (ux.markMacFrame k1 F257.out (by have h1 := fr.fra_bd f; have h2 := Kk1.out; have h3 := S31.out; omega) S31.out).mono ?_)
      rintro e w262 hp
      obtain ⟨rfl, ho, hb⟩ := hp.parts
      clear hp
      obtain ⟨k2, hk9⟩ : ∃ k : Int, k1 + (ux.fra_tv f : Nat) = k := ⟨_, rfl⟩
      have Hk2 := Lib.hid hk9
      have Kk2 := Lib.hid (show 0 ≤ k2 ∧ k2 ≤ k1 + 4294967360 by have h1 := fr.fra_bd f; have h2 := Kk1.out; have h3 := S31.out; omega)
      have ngk2 : ¬ k2 < 0 := by have := Kk2.out; omega
      (first | rw [hk9] | (change Code.wp _ _ _ _ _; rw [hk9]) | skip)
      clear hk9
      have F263 := Lib.hid ho
      clear ho
      have B264 := Lib.hid (B251.out.trans (ux.ks_bel hb (fun b hb => by have z0 := Z4.out; have z1 := Z6.out; have z2 := Z15.out; have z3 := Z26.out; have z4 := Z34.out; have z5 := Z46.out; have z6 := Z58.out; have z7 := Z75.out; have z8 := Z89.out; have z9 := Z103.out; have z10 := Z111.out; have z11 := Z113.out; have z12 := Z136.out; have z13 := Z147.out; have z14 := Z160.out; have z15 := Z179.out; have z16 := Z192.out; have z17 := Z205.out; have z18 := Z224.out; have z19 := Z237.out; have z20 := Z252.out; have zB := B251.out.size; have := F263.out.inn b hb; omega) B251.out.size))
      have Z265 := Lib.hid hb.size
      have F266 := Lib.hid (F253.out.ks hb (fun b h1 h2 h3 => by have z0 := Z4.out; have z1 := Z6.out; have z2 := Z15.out; have z3 := Z26.out; have z4 := Z34.out; have z5 := Z46.out; have z6 := Z58.out; have z7 := Z75.out; have z8 := Z89.out; have z9 := Z103.out; have z10 := Z111.out; have z11 := Z113.out; have z12 := Z136.out; have z13 := Z147.out; have z14 := Z160.out; have z15 := Z179.out; have z16 := Z192.out; have z17 := Z205.out; have z18 := Z224.out; have z19 := Z237.out; have z20 := Z252.out; have z21 := Z265.out; have q2 := F263.out.inn b h3; omega))
      have F267 := Lib.hid (F254.out.ks hb (fun b h1 h2 h3 => by have z0 := Z4.out; have z1 := Z6.out; have z2 := Z15.out; have z3 := Z26.out; have z4 := Z34.out; have z5 := Z46.out; have z6 := Z58.out; have z7 := Z75.out; have z8 := Z89.out; have z9 := Z103.out; have z10 := Z111.out; have z11 := Z113.out; have z12 := Z136.out; have z13 := Z147.out; have z14 := Z160.out; have z15 := Z179.out; have z16 := Z192.out; have z17 := Z205.out; have z18 := Z224.out; have z19 := Z237.out; have z20 := Z252.out; have z21 := Z265.out; have q2 := F263.out.inn b h3; omega))
      have F268 := Lib.hid (F255.out.ks hb (fun b h1 h2 => by have z0 := Z4.out; have z1 := Z6.out; have z2 := Z15.out; have z3 := Z26.out; have z4 := Z34.out; have z5 := Z46.out; have z6 := Z58.out; have z7 := Z75.out; have z8 := Z89.out; have z9 := Z103.out; have z10 := Z111.out; have z11 := Z113.out; have z12 := Z136.out; have z13 := Z147.out; have z14 := Z160.out; have z15 := Z179.out; have z16 := Z192.out; have z17 := Z205.out; have z18 := Z224.out; have z19 := Z237.out; have z20 := Z252.out; have z21 := Z265.out; have q1 := F255.out.inn b h1; have q2 := F263.out.inn b h2; omega))
      have F269 := Lib.hid (F256.out.ks hb (fun b h1 h2 => by have z0 := Z4.out; have z1 := Z6.out; have z2 := Z15.out; have z3 := Z26.out; have z4 := Z34.out; have z5 := Z46.out; have z6 := Z58.out; have z7 := Z75.out; have z8 := Z89.out; have z9 := Z103.out; have z10 := Z111.out; have z11 := Z113.out; have z12 := Z136.out; have z13 := Z147.out; have z14 := Z160.out; have z15 := Z179.out; have z16 := Z192.out; have z17 := Z205.out; have z18 := Z224.out; have z19 := Z237.out; have z20 := Z252.out; have z21 := Z265.out; have q1 := F256.out.inn b h1; have q2 := F263.out.inn b h2; omega))
      have F270 := Lib.hid (F258.out.ks hb (fun b h1 h2 => by have z0 := Z4.out; have z1 := Z6.out; have z2 := Z15.out; have z3 := Z26.out; have z4 := Z34.out; have z5 := Z46.out; have z6 := Z58.out; have z7 := Z75.out; have z8 := Z89.out; have z9 := Z103.out; have z10 := Z111.out; have z11 := Z113.out; have z12 := Z136.out; have z13 := Z147.out; have z14 := Z160.out; have z15 := Z179.out; have z16 := Z192.out; have z17 := Z205.out; have z18 := Z224.out; have z19 := Z237.out; have z20 := Z252.out; have z21 := Z265.out; have q1 := F258.out.inn b h1; have q2 := F263.out.inn b h2; omega))
      have F271 := Lib.hid (F259.out.ks hb (fun b h1 h2 => by have z0 := Z4.out; have z1 := Z6.out; have z2 := Z15.out; have z3 := Z26.out; have z4 := Z34.out; have z5 := Z46.out; have z6 := Z58.out; have z7 := Z75.out; have z8 := Z89.out; have z9 := Z103.out; have z10 := Z111.out; have z11 := Z113.out; have z12 := Z136.out; have z13 := Z147.out; have z14 := Z160.out; have z15 := Z179.out; have z16 := Z192.out; have z17 := Z205.out; have z18 := Z224.out; have z19 := Z237.out; have z20 := Z252.out; have z21 := Z265.out; have q1 := F259.out.inn b h1; have q2 := F263.out.inn b h2; omega))
      have F272 := Lib.hid (fr.bx_ks F260.out hb (fun h3 => by have z0 := Z4.out; have z1 := Z6.out; have z2 := Z15.out; have z3 := Z26.out; have z4 := Z34.out; have z5 := Z46.out; have z6 := Z58.out; have z7 := Z75.out; have z8 := Z89.out; have z9 := Z103.out; have z10 := Z111.out; have z11 := Z113.out; have z12 := Z136.out; have z13 := Z147.out; have z14 := Z160.out; have z15 := Z179.out; have z16 := Z192.out; have z17 := Z205.out; have z18 := Z224.out; have z19 := Z237.out; have z20 := Z252.out; have z21 := Z265.out; have q2 := F263.out.inn _ h3; omega))
      have F273 := Lib.hid (fr.bx_ks F261.out hb (fun h3 => by have z0 := Z4.out; have z1 := Z6.out; have z2 := Z15.out; have z3 := Z26.out; have z4 := Z34.out; have z5 := Z46.out; have z6 := Z58.out; have z7 := Z75.out; have z8 := Z89.out; have z9 := Z103.out; have z10 := Z111.out; have z11 := Z113.out; have z12 := Z136.out; have z13 := Z147.out; have z14 := Z160.out; have z15 := Z179.out; have z16 := Z192.out; have z17 := Z205.out; have z18 := Z224.out; have z19 := Z237.out; have z20 := Z252.out; have z21 := Z265.out; have q2 := F263.out.inn _ h3; omega))
      clear hb B251 F253 F254 F255 F256 F258 F259 F260 F261
      clear F257
      clear F273
      clear F263
      have ck10_0 : (w262).cell? ⟨w.heap.size, 0, none⟩ = some (.int .i64 f.Kind) := F272.out.cell 0
      have ck10_1 : (w262).cell? ⟨w.heap.size, 1, none⟩ = some (.int .i64 f.From) := F272.out.cell 1
      have ck10_2 : (w262).cell? ⟨w.heap.size, 2, none⟩ = some (.int .i64 f.To) := F272.out.cell 2
      have ck10_3 : (w262).cell? ⟨w.heap.size, 3, none⟩ = some (.int .i64 f.Seq) := F272.out.cell 3
      have ck10_4 : (w262).cell? ⟨w.heap.size, 4, none⟩ = some (.int .i64 f.Fragment) := F272.out.cell 4
      have ck10_5 : (w262).cell? ⟨w.heap.size, 5, none⟩ = some (.bool f.More) := F272.out.cell 5
      have ck10_6 : (w262).cell? ⟨w.heap.size, 6, none⟩ = some (.bool f.Retry) := F272.out.cell 6
      have ck10_7 : (w262).cell? ⟨w.heap.size, 7, none⟩ = some (.int .i64 f.Duration) := F272.out.cell 7
      have ck10_8 : (w262).cell? ⟨w.heap.size, 8, none⟩ = some (.slice Af nf cf) := F272.out.cell 8
      go_wp2_with fail
      clear ck10_0 ck10_1 ck10_2 ck10_3 ck10_4 ck10_5 ck10_6 ck10_7 ck10_8
      (with_reducible refine (ux.eqReassemblyS F270.out.rd F268.out.rd).mono ?_)
      rintro e w274 hp
      obtain ⟨rfl, hb⟩ := bx.b_parts rfl hp
      clear hp
      have B275 := Lib.hid (B264.out.trans (hb.mono B264.out.size))
      have Z276 := Lib.hid hb.size
      have F277 := Lib.hid (F266.out.below hb)
      have F278 := Lib.hid (F267.out.below hb)
      have F279 := Lib.hid (F268.out.below hb)
      have F280 := Lib.hid (F269.out.below hb)
      have F281 := Lib.hid (F270.out.below hb)
      have F282 := Lib.hid (F271.out.below hb)
      have F283 := Lib.hid (F272.out.below hb)
      clear hb B264 F266 F267 F268 F269 F270 F271 F272
      have ck10_0 : (w274).cell? ⟨w.heap.size, 0, none⟩ = some (.int .i64 f.Kind) := F283.out.cell 0
      have ck10_1 : (w274).cell? ⟨w.heap.size, 1, none⟩ = some (.int .i64 f.From) := F283.out.cell 1
      have ck10_2 : (w274).cell? ⟨w.heap.size, 2, none⟩ = some (.int .i64 f.To) := F283.out.cell 2
      have ck10_3 : (w274).cell? ⟨w.heap.size, 3, none⟩ = some (.int .i64 f.Seq) := F283.out.cell 3
      have ck10_4 : (w274).cell? ⟨w.heap.size, 4, none⟩ = some (.int .i64 f.Fragment) := F283.out.cell 4
      have ck10_5 : (w274).cell? ⟨w.heap.size, 5, none⟩ = some (.bool f.More) := F283.out.cell 5
      have ck10_6 : (w274).cell? ⟨w.heap.size, 6, none⟩ = some (.bool f.Retry) := F283.out.cell 6
      have ck10_7 : (w274).cell? ⟨w.heap.size, 7, none⟩ = some (.int .i64 f.Duration) := F283.out.cell 7
      have ck10_8 : (w274).cell? ⟨w.heap.size, 8, none⟩ = some (.slice Af nf cf) := F283.out.cell 8
      go_wp2_with fail
      clear ck10_0 ck10_1 ck10_2 ck10_3 ck10_4 ck10_5 ck10_6 ck10_7 ck10_8
      (with_reducible refine (ux.eqByteS F282.out.rd F280.out.rd).mono ?_)
      rintro e w284 hp
      obtain ⟨rfl, hb⟩ := bx.b_parts rfl hp
      clear hp
      have B285 := Lib.hid (B275.out.trans (hb.mono B275.out.size))
      have Z286 := Lib.hid hb.size
      have F287 := Lib.hid (F277.out.below hb)
      have F288 := Lib.hid (F278.out.below hb)
      have F289 := Lib.hid (F279.out.below hb)
      have F290 := Lib.hid (F280.out.below hb)
      have F291 := Lib.hid (F281.out.below hb)
      have F292 := Lib.hid (F282.out.below hb)
      have F293 := Lib.hid (F283.out.below hb)
      clear hb B275 F277 F278 F279 F280 F281 F282 F283
      have ck10_0 : (w284).cell? ⟨w.heap.size, 0, none⟩ = some (.int .i64 f.Kind) := F293.out.cell 0
      have ck10_1 : (w284).cell? ⟨w.heap.size, 1, none⟩ = some (.int .i64 f.From) := F293.out.cell 1
      have ck10_2 : (w284).cell? ⟨w.heap.size, 2, none⟩ = some (.int .i64 f.To) := F293.out.cell 2
      have ck10_3 : (w284).cell? ⟨w.heap.size, 3, none⟩ = some (.int .i64 f.Seq) := F293.out.cell 3
      have ck10_4 : (w284).cell? ⟨w.heap.size, 4, none⟩ = some (.int .i64 f.Fragment) := F293.out.cell 4
      have ck10_5 : (w284).cell? ⟨w.heap.size, 5, none⟩ = some (.bool f.More) := F293.out.cell 5
      have ck10_6 : (w284).cell? ⟨w.heap.size, 6, none⟩ = some (.bool f.Retry) := F293.out.cell 6
      have ck10_7 : (w284).cell? ⟨w.heap.size, 7, none⟩ = some (.int .i64 f.Duration) := F293.out.cell 7
      have ck10_8 : (w284).cell? ⟨w.heap.size, 8, none⟩ = some (.slice Af nf cf) := F293.out.cell 8
      go_wp2_with fail
      clear ck10_0 ck10_1 ck10_2 ck10_3 ck10_4 ck10_5 ck10_6 ck10_7 ck10_8
      (with_reducible refine (ux.markReassemblyS 1 F291.out (by have h1 := fr.rowRea_bd l9; have h2 := (show (0:Int) ≤ 1 ∧ (1:Int) ≤ 4294967360 by omega); have h3 := SL.out; omega) SL.out).mono ?_)
      rintro e w294 hp
      obtain ⟨rfl, ho, hb⟩ := hp.parts
      clear hp
      obtain ⟨m1, hk9⟩ : ∃ k : Int, 1 + (ux.rowRea.tot l9 : Nat) = k := ⟨_, rfl⟩
      have Hm1 := Lib.hid hk9
      have Km1 := Lib.hid (show 0 ≤ m1 ∧ m1 ≤ 1 + 4294967360 by have h1 := fr.rowRea_bd l9; have h2 := (show (0:Int) ≤ 1 ∧ (1:Int) ≤ 4294967360 by omega); have h3 := SL.out; omega)
      have ngm1 : ¬ m1 < 0 := by have := Km1.out; omega
      (first | rw [hk9] | (change Code.wp _ _ _ _ _; rw [hk9]) | skip)
      clear hk9
      have F295 := Lib.hid ho
      clear ho
      have B296 := Lib.hid (B285.out.trans (ux.ks_bel hb (fun b hb => by have z0 := Z4.out; have z1 := Z6.out; have z2 := Z15.out; have z3 := Z26.out; have z4 := Z34.out; have z5 := Z46.out; have z6 := Z58.out; have z7 := Z75.out; have z8 := Z89.out; have z9 := Z103.out; have z10 := Z111.out; have z11 := Z113.out; have z12 := Z136.out; have z13 := Z147.out; have z14 := Z160.out; have z15 := Z179.out; have z16 := Z192.out; have z17 := Z205.out; have z18 := Z224.out; have z19 := Z237.out; have z20 := Z252.out; have z21 := Z265.out; have z22 := Z276.out; have z23 := Z286.out; have zB := B285.out.size; have := F295.out.inn b hb; omega) B285.out.size))
      have Z297 := Lib.hid hb.size
      have F298 := Lib.hid (F287.out.ks hb (fun b h1 h2 h3 => by have z0 := Z4.out; have z1 := Z6.out; have z2 := Z15.out; have z3 := Z26.out; have z4 := Z34.out; have z5 := Z46.out; have z6 := Z58.out; have z7 := Z75.out; have z8 := Z89.out; have z9 := Z103.out; have z10 := Z111.out; have z11 := Z113.out; have z12 := Z136.out; have z13 := Z147.out; have z14 := Z160.out; have z15 := Z179.out; have z16 := Z192.out; have z17 := Z205.out; have z18 := Z224.out; have z19 := Z237.out; have z20 := Z252.out; have z21 := Z265.out; have z22 := Z276.out; have z23 := Z286.out; have z24 := Z297.out; have q2 := F295.out.inn b h3; omega))
      have F299 := Lib.hid (F288.out.ks hb (fun b h1 h2 h3 => by have z0 := Z4.out; have z1 := Z6.out; have z2 := Z15.out; have z3 := Z26.out; have z4 := Z34.out; have z5 := Z46.out; have z6 := Z58.out; have z7 := Z75.out; have z8 := Z89.out; have z9 := Z103.out; have z10 := Z111.out; have z11 := Z113.out; have z12 := Z136.out; have z13 := Z147.out; have z14 := Z160.out; have z15 := Z179.out; have z16 := Z192.out; have z17 := Z205.out; have z18 := Z224.out; have z19 := Z237.out; have z20 := Z252.out; have z21 := Z265.out; have z22 := Z276.out; have z23 := Z286.out; have z24 := Z297.out; have q2 := F295.out.inn b h3; omega))
      have F300 := Lib.hid (F289.out.ks hb (fun b h1 h2 => by have z0 := Z4.out; have z1 := Z6.out; have z2 := Z15.out; have z3 := Z26.out; have z4 := Z34.out; have z5 := Z46.out; have z6 := Z58.out; have z7 := Z75.out; have z8 := Z89.out; have z9 := Z103.out; have z10 := Z111.out; have z11 := Z113.out; have z12 := Z136.out; have z13 := Z147.out; have z14 := Z160.out; have z15 := Z179.out; have z16 := Z192.out; have z17 := Z205.out; have z18 := Z224.out; have z19 := Z237.out; have z20 := Z252.out; have z21 := Z265.out; have z22 := Z276.out; have z23 := Z286.out; have z24 := Z297.out; have q1 := F289.out.inn b h1; have q2 := F295.out.inn b h2; omega))
      have F301 := Lib.hid (F290.out.ks hb (fun b h1 h2 => by have z0 := Z4.out; have z1 := Z6.out; have z2 := Z15.out; have z3 := Z26.out; have z4 := Z34.out; have z5 := Z46.out; have z6 := Z58.out; have z7 := Z75.out; have z8 := Z89.out; have z9 := Z103.out; have z10 := Z111.out; have z11 := Z113.out; have z12 := Z136.out; have z13 := Z147.out; have z14 := Z160.out; have z15 := Z179.out; have z16 := Z192.out; have z17 := Z205.out; have z18 := Z224.out; have z19 := Z237.out; have z20 := Z252.out; have z21 := Z265.out; have z22 := Z276.out; have z23 := Z286.out; have z24 := Z297.out; have q1 := F290.out.inn b h1; have q2 := F295.out.inn b h2; omega))
      have F302 := Lib.hid (F292.out.ks hb (HAP132.out))
      have F303 := Lib.hid (fr.bx_ks F293.out hb (fun h3 => by have z0 := Z4.out; have z1 := Z6.out; have z2 := Z15.out; have z3 := Z26.out; have z4 := Z34.out; have z5 := Z46.out; have z6 := Z58.out; have z7 := Z75.out; have z8 := Z89.out; have z9 := Z103.out; have z10 := Z111.out; have z11 := Z113.out; have z12 := Z136.out; have z13 := Z147.out; have z14 := Z160.out; have z15 := Z179.out; have z16 := Z192.out; have z17 := Z205.out; have z18 := Z224.out; have z19 := Z237.out; have z20 := Z252.out; have z21 := Z265.out; have z22 := Z276.out; have z23 := Z286.out; have z24 := Z297.out; have q2 := F295.out.inn _ h3; omega))
      clear hb B285 F287 F288 F289 F290 F292 F293
      clear F291
      have ck10_0 : (w294).cell? ⟨w.heap.size, 0, none⟩ = some (.int .i64 f.Kind) := F303.out.cell 0
      have ck10_1 : (w294).cell? ⟨w.heap.size, 1, none⟩ = some (.int .i64 f.From) := F303.out.cell 1
      have ck10_2 : (w294).cell? ⟨w.heap.size, 2, none⟩ = some (.int .i64 f.To) := F303.out.cell 2
      have ck10_3 : (w294).cell? ⟨w.heap.size, 3, none⟩ = some (.int .i64 f.Seq) := F303.out.cell 3
      have ck10_4 : (w294).cell? ⟨w.heap.size, 4, none⟩ = some (.int .i64 f.Fragment) := F303.out.cell 4
      have ck10_5 : (w294).cell? ⟨w.heap.size, 5, none⟩ = some (.bool f.More) := F303.out.cell 5
      have ck10_6 : (w294).cell? ⟨w.heap.size, 6, none⟩ = some (.bool f.Retry) := F303.out.cell 6
      have ck10_7 : (w294).cell? ⟨w.heap.size, 7, none⟩ = some (.int .i64 f.Duration) := F303.out.cell 7
      have ck10_8 : (w294).cell? ⟨w.heap.size, 8, none⟩ = some (.slice Af nf cf) := F303.out.cell 8
      go_wp2_with fail
      clear ck10_0 ck10_1 ck10_2 ck10_3 ck10_4 ck10_5 ck10_6 ck10_7 ck10_8
      (with_reducible refine (ux.markByteS m1 F302.out (by have h1 := fr.bytes_bd b9; have h2 := Km1.out; have h3 := SB.out; omega) SB.out).mono ?_)
      rintro e w304 hp
      obtain ⟨rfl, ho, hb⟩ := hp.parts
      clear hp
      obtain ⟨m2, hk9⟩ : ∃ k : Int, m1 + (ux.bytes.tot b9 : Nat) = k := ⟨_, rfl⟩
      have Hm2 := Lib.hid hk9
      have Km2 := Lib.hid (show 0 ≤ m2 ∧ m2 ≤ m1 + 4294967360 by have h1 := fr.bytes_bd b9; have h2 := Km1.out; have h3 := SB.out; omega)
      have ngm2 : ¬ m2 < 0 := by have := Km2.out; omega
      (first | rw [hk9] | (change Code.wp _ _ _ _ _; rw [hk9]) | skip)
      clear hk9
      have F305 := Lib.hid ho
      clear ho
      have B306 := Lib.hid (B296.out.trans (ux.ks_bel hb (fun b hb => by have z0 := Z4.out; have z1 := Z6.out; have z2 := Z15.out; have z3 := Z26.out; have z4 := Z34.out; have z5 := Z46.out; have z6 := Z58.out; have z7 := Z75.out; have z8 := Z89.out; have z9 := Z103.out; have z10 := Z111.out; have z11 := Z113.out; have z12 := Z136.out; have z13 := Z147.out; have z14 := Z160.out; have z15 := Z179.out; have z16 := Z192.out; have z17 := Z205.out; have z18 := Z224.out; have z19 := Z237.out; have z20 := Z252.out; have z21 := Z265.out; have z22 := Z276.out; have z23 := Z286.out; have z24 := Z297.out; have zB := B296.out.size; have := F305.out.inn b hb; omega) B296.out.size))
      have Z307 := Lib.hid hb.size
      have F308 := Lib.hid (F298.out.ks hb (fun b h1 h2 h3 => by have z0 := Z4.out; have z1 := Z6.out; have z2 := Z15.out; have z3 := Z26.out; have z4 := Z34.out; have z5 := Z46.out; have z6 := Z58.out; have z7 := Z75.out; have z8 := Z89.out; have z9 := Z103.out; have z10 := Z111.out; have z11 := Z113.out; have z12 := Z136.out; have z13 := Z147.out; have z14 := Z160.out; have z15 := Z179.out; have z16 := Z192.out; have z17 := Z205.out; have z18 := Z224.out; have z19 := Z237.out; have z20 := Z252.out; have z21 := Z265.out; have z22 := Z276.out; have z23 := Z286.out; have z24 := Z297.out; have z25 := Z307.out; have q2 := F305.out.inn b h3; omega))
      have F309 := Lib.hid (F299.out.ks hb (fun b h1 h2 h3 => by have z0 := Z4.out; have z1 := Z6.out; have z2 := Z15.out; have z3 := Z26.out; have z4 := Z34.out; have z5 := Z46.out; have z6 := Z58.out; have z7 := Z75.out; have z8 := Z89.out; have z9 := Z103.out; have z10 := Z111.out; have z11 := Z113.out; have z12 := Z136.out; have z13 := Z147.out; have z14 := Z160.out; have z15 := Z179.out; have z16 := Z192.out; have z17 := Z205.out; have z18 := Z224.out; have z19 := Z237.out; have z20 := Z252.out; have z21 := Z265.out; have z22 := Z276.out; have z23 := Z286.out; have z24 := Z297.out; have z25 := Z307.out; have q2 := F305.out.inn b h3; omega))
      have F310 := Lib.hid (F300.out.ks hb (fun b h1 h2 => by have z0 := Z4.out; have z1 := Z6.out; have z2 := Z15.out; have z3 := Z26.out; have z4 := Z34.out; have z5 := Z46.out; have z6 := Z58.out; have z7 := Z75.out; have z8 := Z89.out; have z9 := Z103.out; have z10 := Z111.out; have z11 := Z113.out; have z12 := Z136.out; have z13 := Z147.out; have z14 := Z160.out; have z15 := Z179.out; have z16 := Z192.out; have z17 := Z205.out; have z18 := Z224.out; have z19 := Z237.out; have z20 := Z252.out; have z21 := Z265.out; have z22 := Z276.out; have z23 := Z286.out; have z24 := Z297.out; have z25 := Z307.out; have q1 := F300.out.inn b h1; have q2 := F305.out.inn b h2; omega))
      have F311 := Lib.hid (F301.out.ks hb (fun b h1 h2 => by have z0 := Z4.out; have z1 := Z6.out; have z2 := Z15.out; have z3 := Z26.out; have z4 := Z34.out; have z5 := Z46.out; have z6 := Z58.out; have z7 := Z75.out; have z8 := Z89.out; have z9 := Z103.out; have z10 := Z111.out; have z11 := Z113.out; have z12 := Z136.out; have z13 := Z147.out; have z14 := Z160.out; have z15 := Z179.out; have z16 := Z192.out; have z17 := Z205.out; have z18 := Z224.out; have z19 := Z237.out; have z20 := Z252.out; have z21 := Z265.out; have z22 := Z276.out; have z23 := Z286.out; have z24 := Z297.out; have z25 := Z307.out; have q1 := F301.out.inn b h1; have q2 := F305.out.inn b h2; omega))
      have F312 := Lib.hid (F295.out.ks hb (fun b h1 h2 => HAP132.out b h2 h1))
      have F313 := Lib.hid (fr.bx_ks F303.out hb (fun h3 => by have z0 := Z4.out; have z1 := Z6.out; have z2 := Z15.out; have z3 := Z26.out; have z4 := Z34.out; have z5 := Z46.out; have z6 := Z58.out; have z7 := Z75.out; have z8 := Z89.out; have z9 := Z103.out; have z10 := Z111.out; have z11 := Z113.out; have z12 := Z136.out; have z13 := Z147.out; have z14 := Z160.out; have z15 := Z179.out; have z16 := Z192.out; have z17 := Z205.out; have z18 := Z224.out; have z19 := Z237.out; have z20 := Z252.out; have z21 := Z265.out; have z22 := Z276.out; have z23 := Z286.out; have z24 := Z297.out; have z25 := Z307.out; have q2 := F305.out.inn _ h3; omega))
      clear hb B296 F298 F299 F300 F301 F295 F303
      clear F302
      have ck10_0 : (w304).cell? ⟨w.heap.size, 0, none⟩ = some (.int .i64 f.Kind) := F313.out.cell 0
      have ck10_1 : (w304).cell? ⟨w.heap.size, 1, none⟩ = some (.int .i64 f.From) := F313.out.cell 1
      have ck10_2 : (w304).cell? ⟨w.heap.size, 2, none⟩ = some (.int .i64 f.To) := F313.out.cell 2
      have ck10_3 : (w304).cell? ⟨w.heap.size, 3, none⟩ = some (.int .i64 f.Seq) := F313.out.cell 3
      have ck10_4 : (w304).cell? ⟨w.heap.size, 4, none⟩ = some (.int .i64 f.Fragment) := F313.out.cell 4
      have ck10_5 : (w304).cell? ⟨w.heap.size, 5, none⟩ = some (.bool f.More) := F313.out.cell 5
      have ck10_6 : (w304).cell? ⟨w.heap.size, 6, none⟩ = some (.bool f.Retry) := F313.out.cell 6
      have ck10_7 : (w304).cell? ⟨w.heap.size, 7, none⟩ = some (.int .i64 f.Duration) := F313.out.cell 7
      have ck10_8 : (w304).cell? ⟨w.heap.size, 8, none⟩ = some (.slice Af nf cf) := F313.out.cell 8
      go_wp2_with fail
      clear ck10_0 ck10_1 ck10_2 ck10_3 ck10_4 ck10_5 ck10_6 ck10_7 ck10_8
      (with_reducible refine (ux.heldReassemblyS 1 F312.out.rd (by have h1 := fr.rowRea_bd l9; have h2 := (show (0:Int) ≤ 1 ∧ (1:Int) ≤ 4294967360 by omega); have h3 := SL.out; omega) SL.out).mono ?_)
      rintro e w314 hp
      obtain ⟨rfl, hb⟩ := bx.n_parts Hm1.out hp
      clear hp
      have B315 := Lib.hid (B306.out.trans (hb.mono B306.out.size))
      have Z316 := Lib.hid hb.size
      have F317 := Lib.hid (F308.out.below hb)
      have F318 := Lib.hid (F309.out.below hb)
      have F319 := Lib.hid (F310.out.below hb)
      have F320 := Lib.hid (F311.out.below hb)
      have F321 := Lib.hid (F312.out.below hb)
      have F322 := Lib.hid (F305.out.below hb)
      have F323 := Lib.hid (F313.out.below hb)
      clear hb B306 F308 F309 F310 F311 F312 F305 F313
      have ck10_0 : (w314).cell? ⟨w.heap.size, 0, none⟩ = some (.int .i64 f.Kind) := F323.out.cell 0
      have ck10_1 : (w314).cell? ⟨w.heap.size, 1, none⟩ = some (.int .i64 f.From) := F323.out.cell 1
      have ck10_2 : (w314).cell? ⟨w.heap.size, 2, none⟩ = some (.int .i64 f.To) := F323.out.cell 2
      have ck10_3 : (w314).cell? ⟨w.heap.size, 3, none⟩ = some (.int .i64 f.Seq) := F323.out.cell 3
      have ck10_4 : (w314).cell? ⟨w.heap.size, 4, none⟩ = some (.int .i64 f.Fragment) := F323.out.cell 4
      have ck10_5 : (w314).cell? ⟨w.heap.size, 5, none⟩ = some (.bool f.More) := F323.out.cell 5
      have ck10_6 : (w314).cell? ⟨w.heap.size, 6, none⟩ = some (.bool f.Retry) := F323.out.cell 6
      have ck10_7 : (w314).cell? ⟨w.heap.size, 7, none⟩ = some (.int .i64 f.Duration) := F323.out.cell 7
      have ck10_8 : (w314).cell? ⟨w.heap.size, 8, none⟩ = some (.slice Af nf cf) := F323.out.cell 8
      go_wp2_with fail
      clear ck10_0 ck10_1 ck10_2 ck10_3 ck10_4 ck10_5 ck10_6 ck10_7 ck10_8
      (with_reducible refine (ux.heldByteS m1 F322.out.rd (by have h1 := fr.bytes_bd b9; have h2 := Km1.out; have h3 := SB.out; omega) SB.out).mono ?_)
      rintro e w324 hp
      obtain ⟨rfl, hb⟩ := bx.n_parts Hm2.out hp
      clear hp
      have B325 := Lib.hid (B315.out.trans (hb.mono B315.out.size))
      have Z326 := Lib.hid hb.size
      have F327 := Lib.hid (F317.out.below hb)
      have F328 := Lib.hid (F318.out.below hb)
      have F329 := Lib.hid (F319.out.below hb)
      have F330 := Lib.hid (F320.out.below hb)
      have F331 := Lib.hid (F321.out.below hb)
      have F332 := Lib.hid (F322.out.below hb)
      have F333 := Lib.hid (F323.out.below hb)
      clear hb B315 F317 F318 F319 F320 F321 F322 F323
      have ck10_0 : (w324).cell? ⟨w.heap.size, 0, none⟩ = some (.int .i64 f.Kind) := F333.out.cell 0
      have ck10_1 : (w324).cell? ⟨w.heap.size, 1, none⟩ = some (.int .i64 f.From) := F333.out.cell 1
      have ck10_2 : (w324).cell? ⟨w.heap.size, 2, none⟩ = some (.int .i64 f.To) := F333.out.cell 2
      have ck10_3 : (w324).cell? ⟨w.heap.size, 3, none⟩ = some (.int .i64 f.Seq) := F333.out.cell 3
      have ck10_4 : (w324).cell? ⟨w.heap.size, 4, none⟩ = some (.int .i64 f.Fragment) := F333.out.cell 4
      have ck10_5 : (w324).cell? ⟨w.heap.size, 5, none⟩ = some (.bool f.More) := F333.out.cell 5
      have ck10_6 : (w324).cell? ⟨w.heap.size, 6, none⟩ = some (.bool f.Retry) := F333.out.cell 6
      have ck10_7 : (w324).cell? ⟨w.heap.size, 7, none⟩ = some (.int .i64 f.Duration) := F333.out.cell 7
      have ck10_8 : (w324).cell? ⟨w.heap.size, 8, none⟩ = some (.slice Af nf cf) := F333.out.cell 8
      go_wp2_with fail
      clear ck10_0 ck10_1 ck10_2 ck10_3 ck10_4 ck10_5 ck10_6 ck10_7 ck10_8
      have hb : Below w324.heap.size w324 w324.drew := own.below_drew (Below.refl _ _)
      have B334 := Lib.hid (B325.out.trans (hb.mono B325.out.size))
      have Z335 := Lib.hid hb.size
      have F336 := Lib.hid (F327.out.below hb)
      have F337 := Lib.hid (F328.out.below hb)
      have F338 := Lib.hid (F329.out.below hb)
      have F339 := Lib.hid (F330.out.below hb)
      have F340 := Lib.hid (F331.out.below hb)
      have F341 := Lib.hid (F332.out.below hb)
      have F342 := Lib.hid (F333.out.below hb)
      clear hb B325 F327 F328 F329 F330 F331 F332 F333
      have cak10_0 : (w324.drew).cell? ⟨w.heap.size, 0, none⟩ = some (.int .i64 f.Kind) := F342.out.cell 0
      have cak10_1 : (w324.drew).cell? ⟨w.heap.size, 1, none⟩ = some (.int .i64 f.From) := F342.out.cell 1
      have cak10_2 : (w324.drew).cell? ⟨w.heap.size, 2, none⟩ = some (.int .i64 f.To) := F342.out.cell 2
      have cak10_3 : (w324.drew).cell? ⟨w.heap.size, 3, none⟩ = some (.int .i64 f.Seq) := F342.out.cell 3
      have cak10_4 : (w324.drew).cell? ⟨w.heap.size, 4, none⟩ = some (.int .i64 f.Fragment) := F342.out.cell 4
      have cak10_5 : (w324.drew).cell? ⟨w.heap.size, 5, none⟩ = some (.bool f.More) := F342.out.cell 5
      have cak10_6 : (w324.drew).cell? ⟨w.heap.size, 6, none⟩ = some (.bool f.Retry) := F342.out.cell 6
      have cak10_7 : (w324.drew).cell? ⟨w.heap.size, 7, none⟩ = some (.int .i64 f.Duration) := F342.out.cell 7
      have cak10_8 : (w324.drew).cell? ⟨w.heap.size, 8, none⟩ = some (.slice Af nf cf) := F342.out.cell 8
      go_region_held3 (fun w' => w'.cell? ⟨w.heap.size, 0, none⟩ = some (.int .i64 f.Kind) ∧ w'.cell? ⟨w.heap.size, 1, none⟩ = some (.int .i64 f.From) ∧ w'.cell? ⟨w.heap.size, 2, none⟩ = some (.int .i64 f.To) ∧ w'.cell? ⟨w.heap.size, 3, none⟩ = some (.int .i64 f.Seq) ∧ w'.cell? ⟨w.heap.size, 4, none⟩ = some (.int .i64 f.Fragment) ∧ w'.cell? ⟨w.heap.size, 5, none⟩ = some (.bool f.More) ∧ w'.cell? ⟨w.heap.size, 6, none⟩ = some (.bool f.Retry) ∧ w'.cell? ⟨w.heap.size, 7, none⟩ = some (.int .i64 f.Duration) ∧ w'.cell? ⟨w.heap.size, 8, none⟩ = some (.slice Af nf cf)) (first | (with_reducible exact ⟨cak10_0, cak10_1, cak10_2, cak10_3, cak10_4, cak10_5, cak10_6, cak10_7, cak10_8⟩) | (with_reducible exact ⟨cbk10_0, cbk10_1, cbk10_2, cbk10_3, cbk10_4, cbk10_5, cbk10_6, cbk10_7, cbk10_8⟩) | (with_reducible exact ⟨cdk10_0, cdk10_1, cdk10_2, cdk10_3, cdk10_4, cdk10_5, cdk10_6, cdk10_7, cdk10_8⟩) | (with_reducible exact ⟨cek10_0, cek10_1, cek10_2, cek10_3, cek10_4, cek10_5, cek10_6, cek10_7, cek10_8⟩))
        (first
        | (go_at_call 50; (with_reducible refine (ux.toReassemblyS F336.out S20.out).mono ?_); rintro e w343 hp; obtain ⟨v348, fp347, rfl, ho, hb⟩ := hp.parts; clear hp; obtain ⟨A344, n345, c346, rfl⟩ := ux.rowRea_slo ho.1; have F349 := Lib.hid ho; clear ho; have B350 := Lib.hid (B334.out.trans (hb.mono B334.out.size)); have Z351 := Lib.hid hb.size; have F352 := Lib.hid (F336.out.below hb); have F353 := Lib.hid (F337.out.below hb); have F354 := Lib.hid (F338.out.below hb); have F355 := Lib.hid (F339.out.below hb); have F356 := Lib.hid (F340.out.below hb); have F357 := Lib.hid (F341.out.below hb); have F358 := Lib.hid (F342.out.below hb); clear hb B334 F336 F337 F338 F339 F340 F341 F342; have cbk10_0 : (w343).cell? ⟨w.heap.size, 0, none⟩ = some (.int .i64 f.Kind) := F358.out.cell 0; have cbk10_1 : (w343).cell? ⟨w.heap.size, 1, none⟩ = some (.int .i64 f.From) := F358.out.cell 1; have cbk10_2 : (w343).cell? ⟨w.heap.size, 2, none⟩ = some (.int .i64 f.To) := F358.out.cell 2; have cbk10_3 : (w343).cell? ⟨w.heap.size, 3, none⟩ = some (.int .i64 f.Seq) := F358.out.cell 3; have cbk10_4 : (w343).cell? ⟨w.heap.size, 4, none⟩ = some (.int .i64 f.Fragment) := F358.out.cell 4; have cbk10_5 : (w343).cell? ⟨w.heap.size, 5, none⟩ = some (.bool f.More) := F358.out.cell 5; have cbk10_6 : (w343).cell? ⟨w.heap.size, 6, none⟩ = some (.bool f.Retry) := F358.out.cell 6; have cbk10_7 : (w343).cell? ⟨w.heap.size, 7, none⟩ = some (.int .i64 f.Duration) := F358.out.cell 7; have cbk10_8 : (w343).cell? ⟨w.heap.size, 8, none⟩ = some (.slice Af nf cf) := F358.out.cell 8)
        | (go_at_call 38; (with_reducible refine (ux.toMacFrame F353.out S31.out).mono ?_); rintro e w359 hp; obtain ⟨v364, fp363, rfl, ho, hb⟩ := hp.parts; clear hp; obtain ⟨A360, n361, c362, f9, rfl, _, _, _⟩ := ux.fra_o ho; have F365 := Lib.hid ho; clear ho; have B366 := Lib.hid (B350.out.trans (hb.mono B350.out.size)); have Z367 := Lib.hid hb.size; have F368 := Lib.hid (F352.out.below hb); have F369 := Lib.hid (F353.out.below hb); have F370 := Lib.hid (F354.out.below hb); have F371 := Lib.hid (F355.out.below hb); have F372 := Lib.hid (F356.out.below hb); have F373 := Lib.hid (F357.out.below hb); have F374 := Lib.hid (F349.out.below hb); have F375 := Lib.hid (F358.out.below hb); clear hb B350 F352 F353 F354 F355 F356 F357 F349 F358; have cdk10_0 : (w359).cell? ⟨w.heap.size, 0, none⟩ = some (.int .i64 f.Kind) := F375.out.cell 0; have cdk10_1 : (w359).cell? ⟨w.heap.size, 1, none⟩ = some (.int .i64 f.From) := F375.out.cell 1; have cdk10_2 : (w359).cell? ⟨w.heap.size, 2, none⟩ = some (.int .i64 f.To) := F375.out.cell 2; have cdk10_3 : (w359).cell? ⟨w.heap.size, 3, none⟩ = some (.int .i64 f.Seq) := F375.out.cell 3; have cdk10_4 : (w359).cell? ⟨w.heap.size, 4, none⟩ = some (.int .i64 f.Fragment) := F375.out.cell 4; have cdk10_5 : (w359).cell? ⟨w.heap.size, 5, none⟩ = some (.bool f.More) := F375.out.cell 5; have cdk10_6 : (w359).cell? ⟨w.heap.size, 6, none⟩ = some (.bool f.Retry) := F375.out.cell 6; have cdk10_7 : (w359).cell? ⟨w.heap.size, 7, none⟩ = some (.int .i64 f.Duration) := F375.out.cell 7; have cdk10_8 : (w359).cell? ⟨w.heap.size, 8, none⟩ = some (.slice Af nf cf) := F375.out.cell 8)
        | (go_at_call 31; (with_reducible refine (HX.out ▸ fr.implAf f now x0 A344 n345 c346 _ _ (by have h1 := (fr.rea_rq F374.out.rd).len; have h2 := BD.out.1; omega) BD.out.2 _ (fr.rea_rq F374.out.rd) A360 n361 c362 _ _ (fr.fra_rd F365.out.rd) (by have h1 := (fr.fra_rd F365.out.rd).len; have h2 := HLF.out; have h3 := HNF.out; omega)).mono ?_); rintro e w376 hp; obtain ⟨A377, n378, c379, es380, A381, n382, c383, rfl, g9, ho, hw, hdj, hb⟩ := fr.a_out hp; clear hp; obtain ⟨fp384, ho2, hap⟩ := fr.rea_apart ho g9 hw hdj; have HAP385 := Lib.hid hap; clear hap hdj; have hw2 := ux.num_of hw; clear ho g9 hw; have F386 := Lib.hid ho2; clear ho2; have F387 := Lib.hid hw2; clear hw2; have B388 := Lib.hid (B366.out.trans (hb.mono B366.out.size)); have Z389 := Lib.hid hb.size; have F390 := Lib.hid (F368.out.below hb); have F391 := Lib.hid (F369.out.below hb); have F392 := Lib.hid (F370.out.below hb); have F393 := Lib.hid (F371.out.below hb); have F394 := Lib.hid (F372.out.below hb); have F395 := Lib.hid (F373.out.below hb); have F396 := Lib.hid (F374.out.below hb); have F397 := Lib.hid (F365.out.below hb); have F398 := Lib.hid (F375.out.below hb); clear hb B366 F368 F369 F370 F371 F372 F373 F374 F365 F375; have cek10_0 : (w376).cell? ⟨w.heap.size, 0, none⟩ = some (.int .i64 f.Kind) := F398.out.cell 0; have cek10_1 : (w376).cell? ⟨w.heap.size, 1, none⟩ = some (.int .i64 f.From) := F398.out.cell 1; have cek10_2 : (w376).cell? ⟨w.heap.size, 2, none⟩ = some (.int .i64 f.To) := F398.out.cell 2; have cek10_3 : (w376).cell? ⟨w.heap.size, 3, none⟩ = some (.int .i64 f.Seq) := F398.out.cell 3; have cek10_4 : (w376).cell? ⟨w.heap.size, 4, none⟩ = some (.int .i64 f.Fragment) := F398.out.cell 4; have cek10_5 : (w376).cell? ⟨w.heap.size, 5, none⟩ = some (.bool f.More) := F398.out.cell 5; have cek10_6 : (w376).cell? ⟨w.heap.size, 6, none⟩ = some (.bool f.Retry) := F398.out.cell 6; have cek10_7 : (w376).cell? ⟨w.heap.size, 7, none⟩ = some (.int .i64 f.Duration) := F398.out.cell 7; have cek10_8 : (w376).cell? ⟨w.heap.size, 8, none⟩ = some (.slice Af nf cf) := F398.out.cell 8))
      clear cak10_0 cak10_1 cak10_2 cak10_3 cak10_4 cak10_5 cak10_6 cak10_7 cak10_8 cbk10_0 cbk10_1 cbk10_2 cbk10_3 cbk10_4 cbk10_5 cbk10_6 cbk10_7 cbk10_8 cdk10_0 cdk10_1 cdk10_2 cdk10_3 cdk10_4 cdk10_5 cdk10_6 cdk10_7 cdk10_8 cek10_0 cek10_1 cek10_2 cek10_3 cek10_4 cek10_5 cek10_6 cek10_7 cek10_8
      clear F396
      clear F397
      have ck10_0 : (w376).cell? ⟨w.heap.size, 0, none⟩ = some (.int .i64 f.Kind) := F398.out.cell 0
      have ck10_1 : (w376).cell? ⟨w.heap.size, 1, none⟩ = some (.int .i64 f.From) := F398.out.cell 1
      have ck10_2 : (w376).cell? ⟨w.heap.size, 2, none⟩ = some (.int .i64 f.To) := F398.out.cell 2
      have ck10_3 : (w376).cell? ⟨w.heap.size, 3, none⟩ = some (.int .i64 f.Seq) := F398.out.cell 3
      have ck10_4 : (w376).cell? ⟨w.heap.size, 4, none⟩ = some (.int .i64 f.Fragment) := F398.out.cell 4
      have ck10_5 : (w376).cell? ⟨w.heap.size, 5, none⟩ = some (.bool f.More) := F398.out.cell 5
      have ck10_6 : (w376).cell? ⟨w.heap.size, 6, none⟩ = some (.bool f.Retry) := F398.out.cell 6
      have ck10_7 : (w376).cell? ⟨w.heap.size, 7, none⟩ = some (.int .i64 f.Duration) := F398.out.cell 7
      have ck10_8 : (w376).cell? ⟨w.heap.size, 8, none⟩ = some (.slice Af nf cf) := F398.out.cell 8
      go_wp2_with fail
      clear ck10_0 ck10_1 ck10_2 ck10_3 ck10_4 ck10_5 ck10_6 ck10_7 ck10_8
      (with_reducible refine (ux.eqReassemblyS F386.out.rd F392.out.rd).mono ?_)
      rintro e w399 hp
      obtain ⟨rfl, hb⟩ := bx.b_parts rfl hp
      clear hp
      have B400 := Lib.hid (B388.out.trans (hb.mono B388.out.size))
      have Z401 := Lib.hid hb.size
      have F402 := Lib.hid (F390.out.below hb)
      have F403 := Lib.hid (F391.out.below hb)
      have F404 := Lib.hid (F392.out.below hb)
      have F405 := Lib.hid (F393.out.below hb)
      have F406 := Lib.hid (F394.out.below hb)
      have F407 := Lib.hid (F395.out.below hb)
      have F408 := Lib.hid (F386.out.below hb)
      have F409 := Lib.hid (F387.out.below hb)
      have F410 := Lib.hid (F398.out.below hb)
      clear hb B388 F390 F391 F392 F393 F394 F395 F386 F387 F398
      have ck10_0 : (w399).cell? ⟨w.heap.size, 0, none⟩ = some (.int .i64 f.Kind) := F410.out.cell 0
      have ck10_1 : (w399).cell? ⟨w.heap.size, 1, none⟩ = some (.int .i64 f.From) := F410.out.cell 1
      have ck10_2 : (w399).cell? ⟨w.heap.size, 2, none⟩ = some (.int .i64 f.To) := F410.out.cell 2
      have ck10_3 : (w399).cell? ⟨w.heap.size, 3, none⟩ = some (.int .i64 f.Seq) := F410.out.cell 3
      have ck10_4 : (w399).cell? ⟨w.heap.size, 4, none⟩ = some (.int .i64 f.Fragment) := F410.out.cell 4
      have ck10_5 : (w399).cell? ⟨w.heap.size, 5, none⟩ = some (.bool f.More) := F410.out.cell 5
      have ck10_6 : (w399).cell? ⟨w.heap.size, 6, none⟩ = some (.bool f.Retry) := F410.out.cell 6
      have ck10_7 : (w399).cell? ⟨w.heap.size, 7, none⟩ = some (.int .i64 f.Duration) := F410.out.cell 7
      have ck10_8 : (w399).cell? ⟨w.heap.size, 8, none⟩ = some (.slice Af nf cf) := F410.out.cell 8
      go_wp2_with fail
      clear ck10_0 ck10_1 ck10_2 ck10_3 ck10_4 ck10_5 ck10_6 ck10_7 ck10_8
      (with_reducible refine (ux.eqByteS F409.out.rd F405.out.rd).mono ?_)
      rintro e w411 hp
      obtain ⟨rfl, hb⟩ := bx.b_parts rfl hp
      clear hp
      have B412 := Lib.hid (B400.out.trans (hb.mono B400.out.size))
      have Z413 := Lib.hid hb.size
      have F414 := Lib.hid (F402.out.below hb)
      have F415 := Lib.hid (F403.out.below hb)
      have F416 := Lib.hid (F404.out.below hb)
      have F417 := Lib.hid (F405.out.below hb)
      have F418 := Lib.hid (F406.out.below hb)
      have F419 := Lib.hid (F407.out.below hb)
      have F420 := Lib.hid (F408.out.below hb)
      have F421 := Lib.hid (F409.out.below hb)
      have F422 := Lib.hid (F410.out.below hb)
      clear hb B400 F402 F403 F404 F405 F406 F407 F408 F409 F410
      clear F420
      clear F421
      clear F416
      clear F417
      have ck10_0 : (w411).cell? ⟨w.heap.size, 0, none⟩ = some (.int .i64 f.Kind) := F422.out.cell 0
      have ck10_1 : (w411).cell? ⟨w.heap.size, 1, none⟩ = some (.int .i64 f.From) := F422.out.cell 1
      have ck10_2 : (w411).cell? ⟨w.heap.size, 2, none⟩ = some (.int .i64 f.To) := F422.out.cell 2
      have ck10_3 : (w411).cell? ⟨w.heap.size, 3, none⟩ = some (.int .i64 f.Seq) := F422.out.cell 3
      have ck10_4 : (w411).cell? ⟨w.heap.size, 4, none⟩ = some (.int .i64 f.Fragment) := F422.out.cell 4
      have ck10_5 : (w411).cell? ⟨w.heap.size, 5, none⟩ = some (.bool f.More) := F422.out.cell 5
      have ck10_6 : (w411).cell? ⟨w.heap.size, 6, none⟩ = some (.bool f.Retry) := F422.out.cell 6
      have ck10_7 : (w411).cell? ⟨w.heap.size, 7, none⟩ = some (.int .i64 f.Duration) := F422.out.cell 7
      have ck10_8 : (w411).cell? ⟨w.heap.size, 8, none⟩ = some (.slice Af nf cf) := F422.out.cell 8
      go_wp2_with fail
      clear ck10_0 ck10_1 ck10_2 ck10_3 ck10_4 ck10_5 ck10_6 ck10_7 ck10_8
      (with_reducible refine (ux.heldReassemblyS 1 F418.out.rd (by have h1 := fr.rowRea_bd l9; have h2 := (show (0:Int) ≤ 1 ∧ (1:Int) ≤ 4294967360 by omega); have h3 := SL.out; omega) SL.out).mono ?_)
      rintro e w423 hp
      obtain ⟨rfl, hb⟩ := bx.n_parts Hm1.out hp
      clear hp
      have B424 := Lib.hid (B412.out.trans (hb.mono B412.out.size))
      have Z425 := Lib.hid hb.size
      have F426 := Lib.hid (F414.out.below hb)
      have F427 := Lib.hid (F415.out.below hb)
      have F428 := Lib.hid (F418.out.below hb)
      have F429 := Lib.hid (F419.out.below hb)
      have F430 := Lib.hid (F422.out.below hb)
      clear hb B412 F414 F415 F418 F419 F422
      have ck10_0 : (w423).cell? ⟨w.heap.size, 0, none⟩ = some (.int .i64 f.Kind) := F430.out.cell 0
      have ck10_1 : (w423).cell? ⟨w.heap.size, 1, none⟩ = some (.int .i64 f.From) := F430.out.cell 1
      have ck10_2 : (w423).cell? ⟨w.heap.size, 2, none⟩ = some (.int .i64 f.To) := F430.out.cell 2
      have ck10_3 : (w423).cell? ⟨w.heap.size, 3, none⟩ = some (.int .i64 f.Seq) := F430.out.cell 3
      have ck10_4 : (w423).cell? ⟨w.heap.size, 4, none⟩ = some (.int .i64 f.Fragment) := F430.out.cell 4
      have ck10_5 : (w423).cell? ⟨w.heap.size, 5, none⟩ = some (.bool f.More) := F430.out.cell 5
      have ck10_6 : (w423).cell? ⟨w.heap.size, 6, none⟩ = some (.bool f.Retry) := F430.out.cell 6
      have ck10_7 : (w423).cell? ⟨w.heap.size, 7, none⟩ = some (.int .i64 f.Duration) := F430.out.cell 7
      have ck10_8 : (w423).cell? ⟨w.heap.size, 8, none⟩ = some (.slice Af nf cf) := F430.out.cell 8
      go_wp2_with fail
      clear ck10_0 ck10_1 ck10_2 ck10_3 ck10_4 ck10_5 ck10_6 ck10_7 ck10_8
      (with_reducible refine (ux.heldByteS m1 F429.out.rd (by have h1 := fr.bytes_bd b9; have h2 := Km1.out; have h3 := SB.out; omega) SB.out).mono ?_)
      rintro e w431 hp
      obtain ⟨rfl, hb⟩ := bx.n_parts Hm2.out hp
      clear hp
      have B432 := Lib.hid (B424.out.trans (hb.mono B424.out.size))
      have Z433 := Lib.hid hb.size
      have F434 := Lib.hid (F426.out.below hb)
      have F435 := Lib.hid (F427.out.below hb)
      have F436 := Lib.hid (F428.out.below hb)
      have F437 := Lib.hid (F429.out.below hb)
      have F438 := Lib.hid (F430.out.below hb)
      clear hb B424 F426 F427 F428 F429 F430
      have ck10_0 : (w431).cell? ⟨w.heap.size, 0, none⟩ = some (.int .i64 f.Kind) := F438.out.cell 0
      have ck10_1 : (w431).cell? ⟨w.heap.size, 1, none⟩ = some (.int .i64 f.From) := F438.out.cell 1
      have ck10_2 : (w431).cell? ⟨w.heap.size, 2, none⟩ = some (.int .i64 f.To) := F438.out.cell 2
      have ck10_3 : (w431).cell? ⟨w.heap.size, 3, none⟩ = some (.int .i64 f.Seq) := F438.out.cell 3
      have ck10_4 : (w431).cell? ⟨w.heap.size, 4, none⟩ = some (.int .i64 f.Fragment) := F438.out.cell 4
      have ck10_5 : (w431).cell? ⟨w.heap.size, 5, none⟩ = some (.bool f.More) := F438.out.cell 5
      have ck10_6 : (w431).cell? ⟨w.heap.size, 6, none⟩ = some (.bool f.Retry) := F438.out.cell 6
      have ck10_7 : (w431).cell? ⟨w.heap.size, 7, none⟩ = some (.int .i64 f.Duration) := F438.out.cell 7
      have ck10_8 : (w431).cell? ⟨w.heap.size, 8, none⟩ = some (.slice Af nf cf) := F438.out.cell 8
      go_wp2_with fail
      clear ck10_0 ck10_1 ck10_2 ck10_3 ck10_4 ck10_5 ck10_6 ck10_7 ck10_8
      go_ret
      exact ⟨rfl, B432.out⟩
theorem walkA (x0 : List ux.Rea) (A0 : Option Addr) (n0 c0 : Nat) (f0 f1 f2 f3 f4 : Int) (f5 f6 : Bool) (f7 : Int) (Af : Option Addr) (nf cf : Nat) (zf : List Int) (now : Int) (w : World) (h0 : mrw.Rq fr.reaS w 0 w.heap.size A0 n0 c0 x0) (rowf : kit.IsRow .u8 w Af nf cf zf)  :
    Calls Try.prog 9 #[.slice A0 n0 c0, .agg #[.int .i64 f0, .int .i64 f1, .int .i64 f2, .int .i64 f3, .int .i64 f4, .bool f5, .bool f6, .int .i64 f7, .slice Af nf cf], .int .i64 now] w fun e w' => e = .returned (.bool true) ∧ Below w.heap.size w w' := by
  obtain ⟨y, hr⟩ := sl.Rd.of_row rowf
  exact walk x0 A0 n0 c0 ⟨f0, f1, f2, f3, f4, f5, f6, f7, y⟩ Af nf cf now w h0 hr
end Go.Proofs.Ytjmenbpalihnnaa.xExactAddFragment
