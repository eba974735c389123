/- Merged texts of this seat. LIsDuplicate: The walk of FnExactIsDuplicate. Condition: none. | LRememberFrame: The walk of FnExactRememberFrame. Condition: none. | LAcceptFrame: The walk of FnExactAcceptFrame. Condition: none. | LAreValidSeen: The walk of FnExactAreValidSeen. Condition: none. -/
import Derived.Test.YtbkdbdhbmabgcaaG6
import Derived.Test.YtbkdbdhbmabgcaaG8
import Derived.Test.YtbkdbdhbmabgcaaG9
import Derived.Test.YtbkdbdhbmabgcaaG11
section
namespace Go.Proofs.Ytbkdbdhbmabgcaa.xExactIsDuplicate
open Go.RowKit sl harn bx
set_option linter.unusedVariables false
set_option maxRecDepth 100000 in
set_option maxHeartbeats 4000000 in
theorem walk (x0 : List ux.Sen) (A0 : Option Addr) (n0 c0 : Nat) (f : ux.Fra) (Af : Option Addr) (nf cf : Nat) (k : Int)  (w : World) (h0 : mrw.Rq sn.senS w 0 w.heap.size A0 n0 c0 x0) (hf : sl.Rd .u8 w 0 w.heap.size Af nf cf f.Body)  :
    Calls Try.prog 7 #[.slice A0 n0 c0, ux.fraV f (.slice Af nf cf), .int .i64 k] w fun e w' => e = .returned (.bool true) ∧ Below w.heap.size w w' := by
  have B1 := Lib.hid (Below.refl w.heap.size w)
  have F2 := Lib.hid (sn.sen_rr h0)
  have F3 := Lib.hid (fr.fra_of (f := f) hf)
  clear hf
  have HL0 := Lib.hid h0.len
  clear h0
  go_enter Try.func7, Try.ntmps7
  go_upto_region 1 with fail
  obtain ⟨we, hW⟩ : ∃ w0, w.alloc (.cells #[.int .i64 f.Kind, .int .i64 f.From, .int .i64 f.To, .int .i64 f.Seq, .int .i64 f.Fragment, .bool f.More, .bool f.Retry, .int .i64 f.Duration, .slice Af nf cf] 56) = w0 := ⟨_, rfl⟩
  rw [hW]
  have hb : Below w.heap.size w we := by rw [← hW]; exact (Below.refl _ _).alloc (by simp <;> omega) _
  have hz9 : w.heap.size + 1 ≤ we.heap.size := by rw [← hW]; simp
  have Z4 := Lib.hid hz9
  clear hz9
  have B5 := Lib.hid (B1.out.trans (hb.mono B1.out.size))
  have Z6 := Lib.hid hb.size
  have F7 := Lib.hid (F2.out.below hb)
  have F8 := Lib.hid (F3.out.below hb)
  clear hb B1 F2 F3
  have X9 := Lib.hid (show bx.Bx 56 we (w.heap.size) #[.int .i64 f.Kind, .int .i64 f.From, .int .i64 f.To, .int .i64 f.Seq, .int .i64 f.Fragment, .bool f.More, .bool f.Retry, .int .i64 f.Duration, .slice Af nf cf] by
      rw [← hW]
      have hh := bx.Bx.made 56 w #[.int .i64 f.Kind, .int .i64 f.From, .int .i64 f.To, .int .i64 f.Seq, .int .i64 f.Fragment, .bool f.More, .bool f.Retry, .int .i64 f.Duration, .slice Af nf cf]
      exact hh)
  clear hW
  have ck10_0 : (we).cell? ⟨w.heap.size, 0, none⟩ = some (.int .i64 f.Kind) := X9.out.cell 0
  have ck10_1 : (we).cell? ⟨w.heap.size, 1, none⟩ = some (.int .i64 f.From) := X9.out.cell 1
  have ck10_2 : (we).cell? ⟨w.heap.size, 2, none⟩ = some (.int .i64 f.To) := X9.out.cell 2
  have ck10_3 : (we).cell? ⟨w.heap.size, 3, none⟩ = some (.int .i64 f.Seq) := X9.out.cell 3
  have ck10_4 : (we).cell? ⟨w.heap.size, 4, none⟩ = some (.int .i64 f.Fragment) := X9.out.cell 4
  have ck10_5 : (we).cell? ⟨w.heap.size, 5, none⟩ = some (.bool f.More) := X9.out.cell 5
  have ck10_6 : (we).cell? ⟨w.heap.size, 6, none⟩ = some (.bool f.Retry) := X9.out.cell 6
  have ck10_7 : (we).cell? ⟨w.heap.size, 7, none⟩ = some (.int .i64 f.Duration) := X9.out.cell 7
  have ck10_8 : (we).cell? ⟨w.heap.size, 8, none⟩ = some (.slice Af nf cf) := X9.out.cell 8
  go_wp2_with fail
  clear ck10_0 ck10_1 ck10_2 ck10_3 ck10_4 ck10_5 ck10_6 ck10_7 ck10_8
  (with_reducible refine (ux.szSeenFrameS (1048576) (by omega) F7.out).mono ?_)
  rintro e w11 hp
  obtain ⟨r12, rfl, H13, hb⟩ := hp.parts
  have B14 := Lib.hid (B5.out.trans (hb.mono B5.out.size))
  have Z15 := Lib.hid hb.size
  have F16 := Lib.hid (F7.out.below hb)
  have F17 := Lib.hid (F8.out.below hb)
  have F18 := Lib.hid (X9.out.below hb)
  clear hb B5 F7 F8 X9
  rcases H13 with ⟨hr, _⟩ | ⟨hr, ht⟩
  · subst hr
    go_wp2_with fail
    go_ret
    exact ⟨rfl, B14.out⟩
  · have Q19 := Lib.hid (show 0 ≤ r12 ∧ r12 ≤ 1048576 by have := (by omega); omega)
    have S20 := Lib.hid (show ux.rowSen.sz x0 ≤ 67108864 by have := (by omega); omega)
    have S21 := Lib.hid (show ux.rowSen.sz x0 ≤ 1048576 by have := (by omega); omega)
    have ngr12 : ¬ r12 < 0 := by have := Q19.out; omega
    clear hr ht
    have ck10_0 : (w11).cell? ⟨w.heap.size, 0, none⟩ = some (.int .i64 f.Kind) := F18.out.cell 0
    have ck10_1 : (w11).cell? ⟨w.heap.size, 1, none⟩ = some (.int .i64 f.From) := F18.out.cell 1
    have ck10_2 : (w11).cell? ⟨w.heap.size, 2, none⟩ = some (.int .i64 f.To) := F18.out.cell 2
    have ck10_3 : (w11).cell? ⟨w.heap.size, 3, none⟩ = some (.int .i64 f.Seq) := F18.out.cell 3
    have ck10_4 : (w11).cell? ⟨w.heap.size, 4, none⟩ = some (.int .i64 f.Fragment) := F18.out.cell 4
    have ck10_5 : (w11).cell? ⟨w.heap.size, 5, none⟩ = some (.bool f.More) := F18.out.cell 5
    have ck10_6 : (w11).cell? ⟨w.heap.size, 6, none⟩ = some (.bool f.Retry) := F18.out.cell 6
    have ck10_7 : (w11).cell? ⟨w.heap.size, 7, none⟩ = some (.int .i64 f.Duration) := F18.out.cell 7
    have ck10_8 : (w11).cell? ⟨w.heap.size, 8, none⟩ = some (.slice Af nf cf) := F18.out.cell 8
    go_wp2_with fail
    clear ck10_0 ck10_1 ck10_2 ck10_3 ck10_4 ck10_5 ck10_6 ck10_7 ck10_8
    (with_reducible refine (ux.szMacFrame (r12) (Q19.out) F17.out).mono ?_)
    rintro e w22 hp
    obtain ⟨r23, rfl, H24, hb⟩ := hp.parts
    have B25 := Lib.hid (B14.out.trans (hb.mono B14.out.size))
    have Z26 := Lib.hid hb.size
    have F27 := Lib.hid (F16.out.below hb)
    have F28 := Lib.hid (F17.out.below hb)
    have F29 := Lib.hid (F18.out.below hb)
    clear hb B14 F16 F17 F18
    rcases H24 with ⟨hr, _⟩ | ⟨hr, ht⟩
    · subst hr
      go_wp2_with fail
      go_ret
      exact ⟨rfl, B25.out⟩
    · have Q30 := Lib.hid (show 0 ≤ r23 ∧ r23 ≤ 1048576 by have := (Q19.out); omega)
      have S31 := Lib.hid (show ux.fra.sz f ≤ 67108864 by have := (Q19.out); omega)
      have S32 := Lib.hid (show ux.fra.sz f ≤ 1048576 by have := (Q19.out); omega)
      have ngr23 : ¬ r23 < 0 := by have := Q30.out; omega
      clear hr ht
      have HN0 := Lib.hid (show n0 ≤ 1048576 by have h1 := S21.out; rw [sn.row_len] at h1; have h2 := HL0.out; omega)
      obtain ⟨vb, hvb⟩ : ∃ vb, sn.isd x0 f k = vb := ⟨_, rfl⟩
      have VB := Lib.hid hvb
      clear hvb
      have ck10_0 : (w22).cell? ⟨w.heap.size, 0, none⟩ = some (.int .i64 f.Kind) := F29.out.cell 0
      have ck10_1 : (w22).cell? ⟨w.heap.size, 1, none⟩ = some (.int .i64 f.From) := F29.out.cell 1
      have ck10_2 : (w22).cell? ⟨w.heap.size, 2, none⟩ = some (.int .i64 f.To) := F29.out.cell 2
      have ck10_3 : (w22).cell? ⟨w.heap.size, 3, none⟩ = some (.int .i64 f.Seq) := F29.out.cell 3
      have ck10_4 : (w22).cell? ⟨w.heap.size, 4, none⟩ = some (.int .i64 f.Fragment) := F29.out.cell 4
      have ck10_5 : (w22).cell? ⟨w.heap.size, 5, none⟩ = some (.bool f.More) := F29.out.cell 5
      have ck10_6 : (w22).cell? ⟨w.heap.size, 6, none⟩ = some (.bool f.Retry) := F29.out.cell 6
      have ck10_7 : (w22).cell? ⟨w.heap.size, 7, none⟩ = some (.int .i64 f.Duration) := F29.out.cell 7
      have ck10_8 : (w22).cell? ⟨w.heap.size, 8, none⟩ = some (.slice Af nf cf) := F29.out.cell 8
      go_wp2_with fail
      clear ck10_0 ck10_1 ck10_2 ck10_3 ck10_4 ck10_5 ck10_6 ck10_7 ck10_8
      have hb : Below w22.heap.size w22 w22.drew := own.below_drew (Below.refl _ _)
      have B33 := Lib.hid (B25.out.trans (hb.mono B25.out.size))
      have Z34 := Lib.hid hb.size
      have F35 := Lib.hid (F27.out.below hb)
      have F36 := Lib.hid (F28.out.below hb)
      have F37 := Lib.hid (F29.out.below hb)
      clear hb B25 F27 F28 F29
      have cak10_0 : (w22.drew).cell? ⟨w.heap.size, 0, none⟩ = some (.int .i64 f.Kind) := F37.out.cell 0
      have cak10_1 : (w22.drew).cell? ⟨w.heap.size, 1, none⟩ = some (.int .i64 f.From) := F37.out.cell 1
      have cak10_2 : (w22.drew).cell? ⟨w.heap.size, 2, none⟩ = some (.int .i64 f.To) := F37.out.cell 2
      have cak10_3 : (w22.drew).cell? ⟨w.heap.size, 3, none⟩ = some (.int .i64 f.Seq) := F37.out.cell 3
      have cak10_4 : (w22.drew).cell? ⟨w.heap.size, 4, none⟩ = some (.int .i64 f.Fragment) := F37.out.cell 4
      have cak10_5 : (w22.drew).cell? ⟨w.heap.size, 5, none⟩ = some (.bool f.More) := F37.out.cell 5
      have cak10_6 : (w22.drew).cell? ⟨w.heap.size, 6, none⟩ = some (.bool f.Retry) := F37.out.cell 6
      have cak10_7 : (w22.drew).cell? ⟨w.heap.size, 7, none⟩ = some (.int .i64 f.Duration) := F37.out.cell 7
      have cak10_8 : (w22.drew).cell? ⟨w.heap.size, 8, none⟩ = some (.slice Af nf cf) := F37.out.cell 8
      go_region_held3 (fun w' => w'.cell? ⟨w.heap.size, 0, none⟩ = some (.int .i64 f.Kind) ∧ w'.cell? ⟨w.heap.size, 1, none⟩ = some (.int .i64 f.From) ∧ w'.cell? ⟨w.heap.size, 2, none⟩ = some (.int .i64 f.To) ∧ w'.cell? ⟨w.heap.size, 3, none⟩ = some (.int .i64 f.Seq) ∧ w'.cell? ⟨w.heap.size, 4, none⟩ = some (.int .i64 f.Fragment) ∧ w'.cell? ⟨w.heap.size, 5, none⟩ = some (.bool f.More) ∧ w'.cell? ⟨w.heap.size, 6, none⟩ = some (.bool f.Retry) ∧ w'.cell? ⟨w.heap.size, 7, none⟩ = some (.int .i64 f.Duration) ∧ w'.cell? ⟨w.heap.size, 8, none⟩ = some (.slice Af nf cf)) (first | (with_reducible exact ⟨cak10_0, cak10_1, cak10_2, cak10_3, cak10_4, cak10_5, cak10_6, cak10_7, cak10_8⟩) | (with_reducible exact ⟨cbk10_0, cbk10_1, cbk10_2, cbk10_3, cbk10_4, cbk10_5, cbk10_6, cbk10_7, cbk10_8⟩) | (with_reducible exact ⟨cdk10_0, cdk10_1, cdk10_2, cdk10_3, cdk10_4, cdk10_5, cdk10_6, cdk10_7, cdk10_8⟩) | (with_reducible exact ⟨cek10_0, cek10_1, cek10_2, cek10_3, cek10_4, cek10_5, cek10_6, cek10_7, cek10_8⟩))
        (first
        | (go_at_call 34; (with_reducible refine (ux.toSeenFrameS F35.out S20.out).mono ?_); rintro e w38 hp; obtain ⟨v43, fp42, rfl, ho, hb⟩ := hp.parts; clear hp; obtain ⟨A39, n40, c41, rfl⟩ := ux.rowSen_slo ho.1; have F44 := Lib.hid ho; clear ho; have B45 := Lib.hid (B33.out.trans (hb.mono B33.out.size)); have Z46 := Lib.hid hb.size; have F47 := Lib.hid (F35.out.below hb); have F48 := Lib.hid (F36.out.below hb); have F49 := Lib.hid (F37.out.below hb); clear hb B33 F35 F36 F37; have cbk10_0 : (w38).cell? ⟨w.heap.size, 0, none⟩ = some (.int .i64 f.Kind) := F49.out.cell 0; have cbk10_1 : (w38).cell? ⟨w.heap.size, 1, none⟩ = some (.int .i64 f.From) := F49.out.cell 1; have cbk10_2 : (w38).cell? ⟨w.heap.size, 2, none⟩ = some (.int .i64 f.To) := F49.out.cell 2; have cbk10_3 : (w38).cell? ⟨w.heap.size, 3, none⟩ = some (.int .i64 f.Seq) := F49.out.cell 3; have cbk10_4 : (w38).cell? ⟨w.heap.size, 4, none⟩ = some (.int .i64 f.Fragment) := F49.out.cell 4; have cbk10_5 : (w38).cell? ⟨w.heap.size, 5, none⟩ = some (.bool f.More) := F49.out.cell 5; have cbk10_6 : (w38).cell? ⟨w.heap.size, 6, none⟩ = some (.bool f.Retry) := F49.out.cell 6; have cbk10_7 : (w38).cell? ⟨w.heap.size, 7, none⟩ = some (.int .i64 f.Duration) := F49.out.cell 7; have cbk10_8 : (w38).cell? ⟨w.heap.size, 8, none⟩ = some (.slice Af nf cf) := F49.out.cell 8)
        | (go_at_call 37; (with_reducible refine (ux.toMacFrame F48.out S31.out).mono ?_); rintro e w50 hp; obtain ⟨v55, fp54, rfl, ho, hb⟩ := hp.parts; clear hp; obtain ⟨A51, n52, c53, f9, rfl, _, _, _⟩ := ux.fra_o ho; have F56 := Lib.hid ho; clear ho; have B57 := Lib.hid (B45.out.trans (hb.mono B45.out.size)); have Z58 := Lib.hid hb.size; have F59 := Lib.hid (F47.out.below hb); have F60 := Lib.hid (F48.out.below hb); have F61 := Lib.hid (F44.out.below hb); have F62 := Lib.hid (F49.out.below hb); clear hb B45 F47 F48 F44 F49; have cdk10_0 : (w50).cell? ⟨w.heap.size, 0, none⟩ = some (.int .i64 f.Kind) := F62.out.cell 0; have cdk10_1 : (w50).cell? ⟨w.heap.size, 1, none⟩ = some (.int .i64 f.From) := F62.out.cell 1; have cdk10_2 : (w50).cell? ⟨w.heap.size, 2, none⟩ = some (.int .i64 f.To) := F62.out.cell 2; have cdk10_3 : (w50).cell? ⟨w.heap.size, 3, none⟩ = some (.int .i64 f.Seq) := F62.out.cell 3; have cdk10_4 : (w50).cell? ⟨w.heap.size, 4, none⟩ = some (.int .i64 f.Fragment) := F62.out.cell 4; have cdk10_5 : (w50).cell? ⟨w.heap.size, 5, none⟩ = some (.bool f.More) := F62.out.cell 5; have cdk10_6 : (w50).cell? ⟨w.heap.size, 6, none⟩ = some (.bool f.Retry) := F62.out.cell 6; have cdk10_7 : (w50).cell? ⟨w.heap.size, 7, none⟩ = some (.int .i64 f.Duration) := F62.out.cell 7; have cdk10_8 : (w50).cell? ⟨w.heap.size, 8, none⟩ = some (.slice Af nf cf) := F62.out.cell 8)
        | (go_at_call 25; (with_reducible refine (sn.specId x0 A39 n40 c41 _ _ _ (sn.sen_rq F61.out.rd) (by have h1 := (sn.sen_rq F61.out.rd).len; have h2 := HL0.out; have h3 := HN0.out; omega) f k A51 n52 c53).mono ?_); rintro e w63 hp; obtain ⟨rfl, hb⟩ := bx.b_parts VB.out hp; clear hp; have B64 := Lib.hid (B57.out.trans (hb.mono B57.out.size)); have Z65 := Lib.hid hb.size; have F66 := Lib.hid (F59.out.below hb); have F67 := Lib.hid (F60.out.below hb); have F68 := Lib.hid (F61.out.below hb); have F69 := Lib.hid (F56.out.below hb); have F70 := Lib.hid (F62.out.below hb); clear hb B57 F59 F60 F61 F56 F62; have cek10_0 : (w63).cell? ⟨w.heap.size, 0, none⟩ = some (.int .i64 f.Kind) := F70.out.cell 0; have cek10_1 : (w63).cell? ⟨w.heap.size, 1, none⟩ = some (.int .i64 f.From) := F70.out.cell 1; have cek10_2 : (w63).cell? ⟨w.heap.size, 2, none⟩ = some (.int .i64 f.To) := F70.out.cell 2; have cek10_3 : (w63).cell? ⟨w.heap.size, 3, none⟩ = some (.int .i64 f.Seq) := F70.out.cell 3; have cek10_4 : (w63).cell? ⟨w.heap.size, 4, none⟩ = some (.int .i64 f.Fragment) := F70.out.cell 4; have cek10_5 : (w63).cell? ⟨w.heap.size, 5, none⟩ = some (.bool f.More) := F70.out.cell 5; have cek10_6 : (w63).cell? ⟨w.heap.size, 6, none⟩ = some (.bool f.Retry) := F70.out.cell 6; have cek10_7 : (w63).cell? ⟨w.heap.size, 7, none⟩ = some (.int .i64 f.Duration) := F70.out.cell 7; have cek10_8 : (w63).cell? ⟨w.heap.size, 8, none⟩ = some (.slice Af nf cf) := F70.out.cell 8))
      clear cak10_0 cak10_1 cak10_2 cak10_3 cak10_4 cak10_5 cak10_6 cak10_7 cak10_8 cbk10_0 cbk10_1 cbk10_2 cbk10_3 cbk10_4 cbk10_5 cbk10_6 cbk10_7 cbk10_8 cdk10_0 cdk10_1 cdk10_2 cdk10_3 cdk10_4 cdk10_5 cdk10_6 cdk10_7 cdk10_8 cek10_0 cek10_1 cek10_2 cek10_3 cek10_4 cek10_5 cek10_6 cek10_7 cek10_8
      clear F68
      clear F69
      have ck10_0 : (w63).cell? ⟨w.heap.size, 0, none⟩ = some (.int .i64 f.Kind) := F70.out.cell 0
      have ck10_1 : (w63).cell? ⟨w.heap.size, 1, none⟩ = some (.int .i64 f.From) := F70.out.cell 1
      have ck10_2 : (w63).cell? ⟨w.heap.size, 2, none⟩ = some (.int .i64 f.To) := F70.out.cell 2
      have ck10_3 : (w63).cell? ⟨w.heap.size, 3, none⟩ = some (.int .i64 f.Seq) := F70.out.cell 3
      have ck10_4 : (w63).cell? ⟨w.heap.size, 4, none⟩ = some (.int .i64 f.Fragment) := F70.out.cell 4
      have ck10_5 : (w63).cell? ⟨w.heap.size, 5, none⟩ = some (.bool f.More) := F70.out.cell 5
      have ck10_6 : (w63).cell? ⟨w.heap.size, 6, none⟩ = some (.bool f.Retry) := F70.out.cell 6
      have ck10_7 : (w63).cell? ⟨w.heap.size, 7, none⟩ = some (.int .i64 f.Duration) := F70.out.cell 7
      have ck10_8 : (w63).cell? ⟨w.heap.size, 8, none⟩ = some (.slice Af nf cf) := F70.out.cell 8
      go_wp2_with fail
      clear ck10_0 ck10_1 ck10_2 ck10_3 ck10_4 ck10_5 ck10_6 ck10_7 ck10_8
      (with_reducible refine (ux.toSeenFrameS F66.out S20.out).mono ?_)
      rintro e w71 hp
      obtain ⟨v76, fp75, rfl, ho, hb⟩ := hp.parts
      clear hp
      obtain ⟨A72, n73, c74, rfl⟩ := ux.rowSen_slo ho.1
      have F77 := Lib.hid ho
      clear ho
      have B78 := Lib.hid (B64.out.trans (hb.mono B64.out.size))
      have Z79 := Lib.hid hb.size
      have F80 := Lib.hid (F66.out.below hb)
      have F81 := Lib.hid (F67.out.below hb)
      have F82 := Lib.hid (F70.out.below hb)
      clear hb B64 F66 F67 F70
      have ck10_0 : (w71).cell? ⟨w.heap.size, 0, none⟩ = some (.int .i64 f.Kind) := F82.out.cell 0
      have ck10_1 : (w71).cell? ⟨w.heap.size, 1, none⟩ = some (.int .i64 f.From) := F82.out.cell 1
      have ck10_2 : (w71).cell? ⟨w.heap.size, 2, none⟩ = some (.int .i64 f.To) := F82.out.cell 2
      have ck10_3 : (w71).cell? ⟨w.heap.size, 3, none⟩ = some (.int .i64 f.Seq) := F82.out.cell 3
      have ck10_4 : (w71).cell? ⟨w.heap.size, 4, none⟩ = some (.int .i64 f.Fragment) := F82.out.cell 4
      have ck10_5 : (w71).cell? ⟨w.heap.size, 5, none⟩ = some (.bool f.More) := F82.out.cell 5
      have ck10_6 : (w71).cell? ⟨w.heap.size, 6, none⟩ = some (.bool f.Retry) := F82.out.cell 6
      have ck10_7 : (w71).cell? ⟨w.heap.size, 7, none⟩ = some (.int .i64 f.Duration) := F82.out.cell 7
      have ck10_8 : (w71).cell? ⟨w.heap.size, 8, none⟩ = some (.slice Af nf cf) := F82.out.cell 8
      go_wp2_with fail
      clear ck10_0 ck10_1 ck10_2 ck10_3 ck10_4 ck10_5 ck10_6 ck10_7 ck10_8
      (with_reducible refine (ux.toMacFrame F81.out S31.out).mono ?_)
      rintro e w83 hp
      obtain ⟨v88, fp87, rfl, ho, hb⟩ := hp.parts
      clear hp
      obtain ⟨A84, n85, c86, f9, rfl, _, _, _⟩ := ux.fra_o ho
      have F89 := Lib.hid ho
      clear ho
      have B90 := Lib.hid (B78.out.trans (hb.mono B78.out.size))
      have Z91 := Lib.hid hb.size
      have F92 := Lib.hid (F80.out.below hb)
      have F93 := Lib.hid (F81.out.below hb)
      have F94 := Lib.hid (F77.out.below hb)
      have F95 := Lib.hid (F82.out.below hb)
      clear hb B78 F80 F81 F77 F82
      obtain ⟨V96, hV96⟩ : ∃ x, x = w83.alloc (.cells #[.int .i64 f.Kind, .int .i64 f.From, .int .i64 f.To, .int .i64 f.Seq, .int .i64 f.Fragment, .bool f.More, .bool f.Retry, .int .i64 f.Duration, .slice A84 n85 c86] 25) := ⟨_, rfl⟩
      have hb : Below w83.heap.size w83 V96 := by rw [hV96]; exact bx.below_box _ _
      have hz9 : w83.heap.size + 1 ≤ V96.heap.size := by rw [hV96]; simp
      have Z97 := Lib.hid hz9
      clear hz9
      have B98 := Lib.hid (B90.out.trans (hb.mono B90.out.size))
      have Z99 := Lib.hid hb.size
      have F100 := Lib.hid (F92.out.below hb)
      have F101 := Lib.hid (F93.out.below hb)
      have F102 := Lib.hid (F94.out.below hb)
      have F103 := Lib.hid (F89.out.below hb)
      have F104 := Lib.hid (F95.out.below hb)
      clear hb B90 F92 F93 F94 F89 F95
      have X105 := Lib.hid (show bx.Bx 25 V96 w83.heap.size #[.int .i64 f.Kind, .int .i64 f.From, .int .i64 f.To, .int .i64 f.Seq, .int .i64 f.Fragment, .bool f.More, .bool f.Retry, .int .i64 f.Duration, .slice A84 n85 c86] by rw [hV96]; exact bx.Bx.made _ _ _)
      have ck10_0 : (w83.alloc (.cells #[.int .i64 f.Kind, .int .i64 f.From, .int .i64 f.To, .int .i64 f.Seq, .int .i64 f.Fragment, .bool f.More, .bool f.Retry, .int .i64 f.Duration, .slice A84 n85 c86] 25)).cell? ⟨w.heap.size, 0, none⟩ = some (.int .i64 f.Kind) := by rw [← hV96]; exact F104.out.cell 0
      have ck10_1 : (w83.alloc (.cells #[.int .i64 f.Kind, .int .i64 f.From, .int .i64 f.To, .int .i64 f.Seq, .int .i64 f.Fragment, .bool f.More, .bool f.Retry, .int .i64 f.Duration, .slice A84 n85 c86] 25)).cell? ⟨w.heap.size, 1, none⟩ = some (.int .i64 f.From) := by rw [← hV96]; exact F104.out.cell 1
      have ck10_2 : (w83.alloc (.cells #[.int .i64 f.Kind, .int .i64 f.From, .int .i64 f.To, .int .i64 f.Seq, .int .i64 f.Fragment, .bool f.More, .bool f.Retry, .int .i64 f.Duration, .slice A84 n85 c86] 25)).cell? ⟨w.heap.size, 2, none⟩ = some (.int .i64 f.To) := by rw [← hV96]; exact F104.out.cell 2
      have ck10_3 : (w83.alloc (.cells #[.int .i64 f.Kind, .int .i64 f.From, .int .i64 f.To, .int .i64 f.Seq, .int .i64 f.Fragment, .bool f.More, .bool f.Retry, .int .i64 f.Duration, .slice A84 n85 c86] 25)).cell? ⟨w.heap.size, 3, none⟩ = some (.int .i64 f.Seq) := by rw [← hV96]; exact F104.out.cell 3
      have ck10_4 : (w83.alloc (.cells #[.int .i64 f.Kind, .int .i64 f.From, .int .i64 f.To, .int .i64 f.Seq, .int .i64 f.Fragment, .bool f.More, .bool f.Retry, .int .i64 f.Duration, .slice A84 n85 c86] 25)).cell? ⟨w.heap.size, 4, none⟩ = some (.int .i64 f.Fragment) := by rw [← hV96]; exact F104.out.cell 4
      have ck10_5 : (w83.alloc (.cells #[.int .i64 f.Kind, .int .i64 f.From, .int .i64 f.To, .int .i64 f.Seq, .int .i64 f.Fragment, .bool f.More, .bool f.Retry, .int .i64 f.Duration, .slice A84 n85 c86] 25)).cell? ⟨w.heap.size, 5, none⟩ = some (.bool f.More) := by rw [← hV96]; exact F104.out.cell 5
      have ck10_6 : (w83.alloc (.cells #[.int .i64 f.Kind, .int .i64 f.From, .int .i64 f.To, .int .i64 f.Seq, .int .i64 f.Fragment, .bool f.More, .bool f.Retry, .int .i64 f.Duration, .slice A84 n85 c86] 25)).cell? ⟨w.heap.size, 6, none⟩ = some (.bool f.Retry) := by rw [← hV96]; exact F104.out.cell 6
      have ck10_7 : (w83.alloc (.cells #[.int .i64 f.Kind, .int .i64 f.From, .int .i64 f.To, .int .i64 f.Seq, .int .i64 f.Fragment, .bool f.More, .bool f.Retry, .int .i64 f.Duration, .slice A84 n85 c86] 25)).cell? ⟨w.heap.size, 7, none⟩ = some (.int .i64 f.Duration) := by rw [← hV96]; exact F104.out.cell 7
      have ck10_8 : (w83.alloc (.cells #[.int .i64 f.Kind, .int .i64 f.From, .int .i64 f.To, .int .i64 f.Seq, .int .i64 f.Fragment, .bool f.More, .bool f.Retry, .int .i64 f.Duration, .slice A84 n85 c86] 25)).cell? ⟨w.heap.size, 8, none⟩ = some (.slice Af nf cf) := by rw [← hV96]; exact F104.out.cell 8
      have ck106_0 : (w83.alloc (.cells #[.int .i64 f.Kind, .int .i64 f.From, .int .i64 f.To, .int .i64 f.Seq, .int .i64 f.Fragment, .bool f.More, .bool f.Retry, .int .i64 f.Duration, .slice A84 n85 c86] 25)).cell? ⟨w83.heap.size, 0, none⟩ = some (.int .i64 f.Kind) := by rw [← hV96]; exact X105.out.cell 0
      have ck106_1 : (w83.alloc (.cells #[.int .i64 f.Kind, .int .i64 f.From, .int .i64 f.To, .int .i64 f.Seq, .int .i64 f.Fragment, .bool f.More, .bool f.Retry, .int .i64 f.Duration, .slice A84 n85 c86] 25)).cell? ⟨w83.heap.size, 1, none⟩ = some (.int .i64 f.From) := by rw [← hV96]; exact X105.out.cell 1
      have ck106_2 : (w83.alloc (.cells #[.int .i64 f.Kind, .int .i64 f.From, .int .i64 f.To, .int .i64 f.Seq, .int .i64 f.Fragment, .bool f.More, .bool f.Retry, .int .i64 f.Duration, .slice A84 n85 c86] 25)).cell? ⟨w83.heap.size, 2, none⟩ = some (.int .i64 f.To) := by rw [← hV96]; exact X105.out.cell 2
      have ck106_3 : (w83.alloc (.cells #[.int .i64 f.Kind, .int .i64 f.From, .int .i64 f.To, .int .i64 f.Seq, .int .i64 f.Fragment, .bool f.More, .bool f.Retry, .int .i64 f.Duration, .slice A84 n85 c86] 25)).cell? ⟨w83.heap.size, 3, none⟩ = some (.int .i64 f.Seq) := by rw [← hV96]; exact X105.out.cell 3
      have ck106_4 : (w83.alloc (.cells #[.int .i64 f.Kind, .int .i64 f.From, .int .i64 f.To, .int .i64 f.Seq, .int .i64 f.Fragment, .bool f.More, .bool f.Retry, .int .i64 f.Duration, .slice A84 n85 c86] 25)).cell? ⟨w83.heap.size, 4, none⟩ = some (.int .i64 f.Fragment) := by rw [← hV96]; exact X105.out.cell 4
      have ck106_5 : (w83.alloc (.cells #[.int .i64 f.Kind, .int .i64 f.From, .int .i64 f.To, .int .i64 f.Seq, .int .i64 f.Fragment, .bool f.More, .bool f.Retry, .int .i64 f.Duration, .slice A84 n85 c86] 25)).cell? ⟨w83.heap.size, 5, none⟩ = some (.bool f.More) := by rw [← hV96]; exact X105.out.cell 5
      have ck106_6 : (w83.alloc (.cells #[.int .i64 f.Kind, .int .i64 f.From, .int .i64 f.To, .int .i64 f.Seq, .int .i64 f.Fragment, .bool f.More, .bool f.Retry, .int .i64 f.Duration, .slice A84 n85 c86] 25)).cell? ⟨w83.heap.size, 6, none⟩ = some (.bool f.Retry) := by rw [← hV96]; exact X105.out.cell 6
      have ck106_7 : (w83.alloc (.cells #[.int .i64 f.Kind, .int .i64 f.From, .int .i64 f.To, .int .i64 f.Seq, .int .i64 f.Fragment, .bool f.More, .bool f.Retry, .int .i64 f.Duration, .slice A84 n85 c86] 25)).cell? ⟨w83.heap.size, 7, none⟩ = some (.int .i64 f.Duration) := by rw [← hV96]; exact X105.out.cell 7
      have ck106_8 : (w83.alloc (.cells #[.int .i64 f.Kind, .int .i64 f.From, .int .i64 f.To, .int .i64 f.Seq, .int .i64 f.Fragment, .bool f.More, .bool f.Retry, .int .i64 f.Duration, .slice A84 n85 c86] 25)).cell? ⟨w83.heap.size, 8, none⟩ = some (.slice A84 n85 c86) := by rw [← hV96]; exact X105.out.cell 8
      go_wp2_with fail
      rw [← hV96]
      clear hV96 ck10_0 ck10_1 ck10_2 ck10_3 ck10_4 ck10_5 ck10_6 ck10_7 ck10_8 ck106_0 ck106_1 ck106_2 ck106_3 ck106_4 ck106_5 ck106_6 ck106_7 ck106_8
      (with_reducible refine (sn.implId x0 A72 n73 c74 _ _ _ (sn.sen_rq F102.out.rd) (by have h1 := (sn.sen_rq F102.out.rd).len; have h2 := HL0.out; have h3 := HN0.out; omega) f k A84 n85 c86).mono ?_)
      rintro e w107 hp
      obtain ⟨rfl, hb⟩ := bx.b_parts VB.out hp
      clear hp
      have B108 := Lib.hid (B98.out.trans (hb.mono B98.out.size))
      have Z109 := Lib.hid hb.size
      have F110 := Lib.hid (F100.out.below hb)
      have F111 := Lib.hid (F101.out.below hb)
      have F112 := Lib.hid (F102.out.below hb)
      have F113 := Lib.hid (F103.out.below hb)
      have F114 := Lib.hid (F104.out.below hb)
      have F115 := Lib.hid (X105.out.below hb)
      clear hb B98 F100 F101 F102 F103 F104 X105
      have ck10_0 : (w107).cell? ⟨w.heap.size, 0, none⟩ = some (.int .i64 f.Kind) := F114.out.cell 0
      have ck10_1 : (w107).cell? ⟨w.heap.size, 1, none⟩ = some (.int .i64 f.From) := F114.out.cell 1
      have ck10_2 : (w107).cell? ⟨w.heap.size, 2, none⟩ = some (.int .i64 f.To) := F114.out.cell 2
      have ck10_3 : (w107).cell? ⟨w.heap.size, 3, none⟩ = some (.int .i64 f.Seq) := F114.out.cell 3
      have ck10_4 : (w107).cell? ⟨w.heap.size, 4, none⟩ = some (.int .i64 f.Fragment) := F114.out.cell 4
      have ck10_5 : (w107).cell? ⟨w.heap.size, 5, none⟩ = some (.bool f.More) := F114.out.cell 5
      have ck10_6 : (w107).cell? ⟨w.heap.size, 6, none⟩ = some (.bool f.Retry) := F114.out.cell 6
      have ck10_7 : (w107).cell? ⟨w.heap.size, 7, none⟩ = some (.int .i64 f.Duration) := F114.out.cell 7
      have ck10_8 : (w107).cell? ⟨w.heap.size, 8, none⟩ = some (.slice Af nf cf) := F114.out.cell 8
      have ck106_0 : (w107).cell? ⟨w83.heap.size, 0, none⟩ = some (.int .i64 f.Kind) := F115.out.cell 0
      have ck106_1 : (w107).cell? ⟨w83.heap.size, 1, none⟩ = some (.int .i64 f.From) := F115.out.cell 1
      have ck106_2 : (w107).cell? ⟨w83.heap.size, 2, none⟩ = some (.int .i64 f.To) := F115.out.cell 2
      have ck106_3 : (w107).cell? ⟨w83.heap.size, 3, none⟩ = some (.int .i64 f.Seq) := F115.out.cell 3
      have ck106_4 : (w107).cell? ⟨w83.heap.size, 4, none⟩ = some (.int .i64 f.Fragment) := F115.out.cell 4
      have ck106_5 : (w107).cell? ⟨w83.heap.size, 5, none⟩ = some (.bool f.More) := F115.out.cell 5
      have ck106_6 : (w107).cell? ⟨w83.heap.size, 6, none⟩ = some (.bool f.Retry) := F115.out.cell 6
      have ck106_7 : (w107).cell? ⟨w83.heap.size, 7, none⟩ = some (.int .i64 f.Duration) := F115.out.cell 7
      have ck106_8 : (w107).cell? ⟨w83.heap.size, 8, none⟩ = some (.slice A84 n85 c86) := F115.out.cell 8
      go_wp2_with fail
      clear ck10_0 ck10_1 ck10_2 ck10_3 ck10_4 ck10_5 ck10_6 ck10_7 ck10_8 ck106_0 ck106_1 ck106_2 ck106_3 ck106_4 ck106_5 ck106_6 ck106_7 ck106_8
      (with_reducible refine (ux.toSeenFrameS F110.out S20.out).mono ?_)
      rintro e w116 hp
      obtain ⟨v121, fp120, rfl, ho, hb⟩ := hp.parts
      clear hp
      obtain ⟨A117, n118, c119, rfl⟩ := ux.rowSen_slo ho.1
      have F122 := Lib.hid ho
      clear ho
      have B123 := Lib.hid (B108.out.trans (hb.mono B108.out.size))
      have Z124 := Lib.hid hb.size
      have F125 := Lib.hid (F110.out.below hb)
      have F126 := Lib.hid (F111.out.below hb)
      have F127 := Lib.hid (F112.out.below hb)
      have F128 := Lib.hid (F113.out.below hb)
      have F129 := Lib.hid (F114.out.below hb)
      have F130 := Lib.hid (F115.out.below hb)
      clear hb B108 F110 F111 F112 F113 F114 F115
      have ck10_0 : (w116).cell? ⟨w.heap.size, 0, none⟩ = some (.int .i64 f.Kind) := F129.out.cell 0
      have ck10_1 : (w116).cell? ⟨w.heap.size, 1, none⟩ = some (.int .i64 f.From) := F129.out.cell 1
      have ck10_2 : (w116).cell? ⟨w.heap.size, 2, none⟩ = some (.int .i64 f.To) := F129.out.cell 2
      have ck10_3 : (w116).cell? ⟨w.heap.size, 3, none⟩ = some (.int .i64 f.Seq) := F129.out.cell 3
      have ck10_4 : (w116).cell? ⟨w.heap.size, 4, none⟩ = some (.int .i64 f.Fragment) := F129.out.cell 4
      have ck10_5 : (w116).cell? ⟨w.heap.size, 5, none⟩ = some (.bool f.More) := F129.out.cell 5
      have ck10_6 : (w116).cell? ⟨w.heap.size, 6, none⟩ = some (.bool f.Retry) := F129.out.cell 6
      have ck10_7 : (w116).cell? ⟨w.heap.size, 7, none⟩ = some (.int .i64 f.Duration) := F129.out.cell 7
      have ck10_8 : (w116).cell? ⟨w.heap.size, 8, none⟩ = some (.slice Af nf cf) := F129.out.cell 8
      have ck106_0 : (w116).cell? ⟨w83.heap.size, 0, none⟩ = some (.int .i64 f.Kind) := F130.out.cell 0
      have ck106_1 : (w116).cell? ⟨w83.heap.size, 1, none⟩ = some (.int .i64 f.From) := F130.out.cell 1
      have ck106_2 : (w116).cell? ⟨w83.heap.size, 2, none⟩ = some (.int .i64 f.To) := F130.out.cell 2
      have ck106_3 : (w116).cell? ⟨w83.heap.size, 3, none⟩ = some (.int .i64 f.Seq) := F130.out.cell 3
      have ck106_4 : (w116).cell? ⟨w83.heap.size, 4, none⟩ = some (.int .i64 f.Fragment) := F130.out.cell 4
      have ck106_5 : (w116).cell? ⟨w83.heap.size, 5, none⟩ = some (.bool f.More) := F130.out.cell 5
      have ck106_6 : (w116).cell? ⟨w83.heap.size, 6, none⟩ = some (.bool f.Retry) := F130.out.cell 6
      have ck106_7 : (w116).cell? ⟨w83.heap.size, 7, none⟩ = some (.int .i64 f.Duration) := F130.out.cell 7
      have ck106_8 : (w116).cell? ⟨w83.heap.size, 8, none⟩ = some (.slice A84 n85 c86) := F130.out.cell 8
      go_wp2_with fail
      clear ck10_0 ck10_1 ck10_2 ck10_3 ck10_4 ck10_5 ck10_6 ck10_7 ck10_8 ck106_0 ck106_1 ck106_2 ck106_3 ck106_4 ck106_5 ck106_6 ck106_7 ck106_8
      (with_reducible refine (ux.eqSeenFrameS F127.out.rd F122.out.rd).mono ?_)
      rintro e w131 hp
      obtain ⟨rfl, hb⟩ := bx.b_parts rfl hp
      clear hp
      have B132 := Lib.hid (B123.out.trans (hb.mono B123.out.size))
      have Z133 := Lib.hid hb.size
      have F134 := Lib.hid (F125.out.below hb)
      have F135 := Lib.hid (F126.out.below hb)
      have F136 := Lib.hid (F127.out.below hb)
      have F137 := Lib.hid (F128.out.below hb)
      have F138 := Lib.hid (F122.out.below hb)
      have F139 := Lib.hid (F129.out.below hb)
      have F140 := Lib.hid (F130.out.below hb)
      clear hb B123 F125 F126 F127 F128 F122 F129 F130
      clear F138
      have ck10_0 : (w131).cell? ⟨w.heap.size, 0, none⟩ = some (.int .i64 f.Kind) := F139.out.cell 0
      have ck10_1 : (w131).cell? ⟨w.heap.size, 1, none⟩ = some (.int .i64 f.From) := F139.out.cell 1
      have ck10_2 : (w131).cell? ⟨w.heap.size, 2, none⟩ = some (.int .i64 f.To) := F139.out.cell 2
      have ck10_3 : (w131).cell? ⟨w.heap.size, 3, none⟩ = some (.int .i64 f.Seq) := F139.out.cell 3
      have ck10_4 : (w131).cell? ⟨w.heap.size, 4, none⟩ = some (.int .i64 f.Fragment) := F139.out.cell 4
      have ck10_5 : (w131).cell? ⟨w.heap.size, 5, none⟩ = some (.bool f.More) := F139.out.cell 5
      have ck10_6 : (w131).cell? ⟨w.heap.size, 6, none⟩ = some (.bool f.Retry) := F139.out.cell 6
      have ck10_7 : (w131).cell? ⟨w.heap.size, 7, none⟩ = some (.int .i64 f.Duration) := F139.out.cell 7
      have ck10_8 : (w131).cell? ⟨w.heap.size, 8, none⟩ = some (.slice Af nf cf) := F139.out.cell 8
      have ck106_0 : (w131).cell? ⟨w83.heap.size, 0, none⟩ = some (.int .i64 f.Kind) := F140.out.cell 0
      have ck106_1 : (w131).cell? ⟨w83.heap.size, 1, none⟩ = some (.int .i64 f.From) := F140.out.cell 1
      have ck106_2 : (w131).cell? ⟨w83.heap.size, 2, none⟩ = some (.int .i64 f.To) := F140.out.cell 2
      have ck106_3 : (w131).cell? ⟨w83.heap.size, 3, none⟩ = some (.int .i64 f.Seq) := F140.out.cell 3
      have ck106_4 : (w131).cell? ⟨w83.heap.size, 4, none⟩ = some (.int .i64 f.Fragment) := F140.out.cell 4
      have ck106_5 : (w131).cell? ⟨w83.heap.size, 5, none⟩ = some (.bool f.More) := F140.out.cell 5
      have ck106_6 : (w131).cell? ⟨w83.heap.size, 6, none⟩ = some (.bool f.Retry) := F140.out.cell 6
      have ck106_7 : (w131).cell? ⟨w83.heap.size, 7, none⟩ = some (.int .i64 f.Duration) := F140.out.cell 7
      have ck106_8 : (w131).cell? ⟨w83.heap.size, 8, none⟩ = some (.slice A84 n85 c86) := F140.out.cell 8
      go_wp2_with fail
      clear ck10_0 ck10_1 ck10_2 ck10_3 ck10_4 ck10_5 ck10_6 ck10_7 ck10_8 ck106_0 ck106_1 ck106_2 ck106_3 ck106_4 ck106_5 ck106_6 ck106_7 ck106_8
      have hb : Below w131.heap.size w131 w131.drew := own.below_drew (Below.refl _ _)
      have B141 := Lib.hid (B132.out.trans (hb.mono B132.out.size))
      have Z142 := Lib.hid hb.size
      have F143 := Lib.hid (F134.out.below hb)
      have F144 := Lib.hid (F135.out.below hb)
      have F145 := Lib.hid (F136.out.below hb)
      have F146 := Lib.hid (F137.out.below hb)
      have F147 := Lib.hid (F139.out.below hb)
      have F148 := Lib.hid (F140.out.below hb)
      clear hb B132 F134 F135 F136 F137 F139 F140
      have cak106_0 : (w131.drew).cell? ⟨w83.heap.size, 0, none⟩ = some (.int .i64 f.Kind) := F148.out.cell 0
      have cak106_1 : (w131.drew).cell? ⟨w83.heap.size, 1, none⟩ = some (.int .i64 f.From) := F148.out.cell 1
      have cak106_2 : (w131.drew).cell? ⟨w83.heap.size, 2, none⟩ = some (.int .i64 f.To) := F148.out.cell 2
      have cak106_3 : (w131.drew).cell? ⟨w83.heap.size, 3, none⟩ = some (.int .i64 f.Seq) := F148.out.cell 3
      have cak106_4 : (w131.drew).cell? ⟨w83.heap.size, 4, none⟩ = some (.int .i64 f.Fragment) := F148.out.cell 4
      have cak106_5 : (w131.drew).cell? ⟨w83.heap.size, 5, none⟩ = some (.bool f.More) := F148.out.cell 5
      have cak106_6 : (w131.drew).cell? ⟨w83.heap.size, 6, none⟩ = some (.bool f.Retry) := F148.out.cell 6
      have cak106_7 : (w131.drew).cell? ⟨w83.heap.size, 7, none⟩ = some (.int .i64 f.Duration) := F148.out.cell 7
      have cak106_8 : (w131.drew).cell? ⟨w83.heap.size, 8, none⟩ = some (.slice A84 n85 c86) := F148.out.cell 8
      have cak10_0 : (w131.drew).cell? ⟨w.heap.size, 0, none⟩ = some (.int .i64 f.Kind) := F147.out.cell 0
      have cak10_1 : (w131.drew).cell? ⟨w.heap.size, 1, none⟩ = some (.int .i64 f.From) := F147.out.cell 1
      have cak10_2 : (w131.drew).cell? ⟨w.heap.size, 2, none⟩ = some (.int .i64 f.To) := F147.out.cell 2
      have cak10_3 : (w131.drew).cell? ⟨w.heap.size, 3, none⟩ = some (.int .i64 f.Seq) := F147.out.cell 3
      have cak10_4 : (w131.drew).cell? ⟨w.heap.size, 4, none⟩ = some (.int .i64 f.Fragment) := F147.out.cell 4
      have cak10_5 : (w131.drew).cell? ⟨w.heap.size, 5, none⟩ = some (.bool f.More) := F147.out.cell 5
      have cak10_6 : (w131.drew).cell? ⟨w.heap.size, 6, none⟩ = some (.bool f.Retry) := F147.out.cell 6
      have cak10_7 : (w131.drew).cell? ⟨w.heap.size, 7, none⟩ = some (.int .i64 f.Duration) := F147.out.cell 7
      have cak10_8 : (w131.drew).cell? ⟨w.heap.size, 8, none⟩ = some (.slice Af nf cf) := F147.out.cell 8
      go_region_held3 (fun w' => w'.cell? ⟨w83.heap.size, 0, none⟩ = some (.int .i64 f.Kind) ∧ w'.cell? ⟨w83.heap.size, 1, none⟩ = some (.int .i64 f.From) ∧ w'.cell? ⟨w83.heap.size, 2, none⟩ = some (.int .i64 f.To) ∧ w'.cell? ⟨w83.heap.size, 3, none⟩ = some (.int .i64 f.Seq) ∧ w'.cell? ⟨w83.heap.size, 4, none⟩ = some (.int .i64 f.Fragment) ∧ w'.cell? ⟨w83.heap.size, 5, none⟩ = some (.bool f.More) ∧ w'.cell? ⟨w83.heap.size, 6, none⟩ = some (.bool f.Retry) ∧ w'.cell? ⟨w83.heap.size, 7, none⟩ = some (.int .i64 f.Duration) ∧ w'.cell? ⟨w83.heap.size, 8, none⟩ = some (.slice A84 n85 c86) ∧ w'.cell? ⟨w.heap.size, 0, none⟩ = some (.int .i64 f.Kind) ∧ w'.cell? ⟨w.heap.size, 1, none⟩ = some (.int .i64 f.From) ∧ w'.cell? ⟨w.heap.size, 2, none⟩ = some (.int .i64 f.To) ∧ w'.cell? ⟨w.heap.size, 3, none⟩ = some (.int .i64 f.Seq) ∧ w'.cell? ⟨w.heap.size, 4, none⟩ = some (.int .i64 f.Fragment) ∧ w'.cell? ⟨w.heap.size, 5, none⟩ = some (.bool f.More) ∧ w'.cell? ⟨w.heap.size, 6, none⟩ = some (.bool f.Retry) ∧ w'.cell? ⟨w.heap.size, 7, none⟩ = some (.int .i64 f.Duration) ∧ w'.cell? ⟨w.heap.size, 8, none⟩ = some (.slice Af nf cf)) (first | (with_reducible exact ⟨cak106_0, cak106_1, cak106_2, cak106_3, cak106_4, cak106_5, cak106_6, cak106_7, cak106_8, cak10_0, cak10_1, cak10_2, cak10_3, cak10_4, cak10_5, cak10_6, cak10_7, cak10_8⟩) | (with_reducible exact ⟨cbk106_0, cbk106_1, cbk106_2, cbk106_3, cbk106_4, cbk106_5, cbk106_6, cbk106_7, cbk106_8, cbk10_0, cbk10_1, cbk10_2, cbk10_3, cbk10_4, cbk10_5, cbk10_6, cbk10_7, cbk10_8⟩) | (with_reducible exact ⟨cdk106_0, cdk106_1, cdk106_2, cdk106_3, cdk106_4, cdk106_5, cdk106_6, cdk106_7, cdk106_8, cdk10_0, cdk10_1, cdk10_2, cdk10_3, cdk10_4, cdk10_5, cdk10_6, cdk10_7, cdk10_8⟩))
        (first
        | (go_at_call 37; refine (ux.toMacFrame F144.out S31.out).mono ?_; rintro e w149 hp; obtain ⟨v154, fp153, rfl, ho, hb⟩ := hp.parts; clear hp; obtain ⟨A150, n151, c152, f9, rfl, _, _, _⟩ := ux.fra_o ho; have F155 := Lib.hid ho; clear ho; have B156 := Lib.hid (B141.out.trans (hb.mono B141.out.size)); have Z157 := Lib.hid hb.size; have F158 := Lib.hid (F143.out.below hb); have F159 := Lib.hid (F144.out.below hb); have F160 := Lib.hid (F145.out.below hb); have F161 := Lib.hid (F146.out.below hb); have F162 := Lib.hid (F147.out.below hb); have F163 := Lib.hid (F148.out.below hb); clear hb B141 F143 F144 F145 F146 F147 F148; have cbk106_0 : (w149).cell? ⟨w83.heap.size, 0, none⟩ = some (.int .i64 f.Kind) := F163.out.cell 0; have cbk106_1 : (w149).cell? ⟨w83.heap.size, 1, none⟩ = some (.int .i64 f.From) := F163.out.cell 1; have cbk106_2 : (w149).cell? ⟨w83.heap.size, 2, none⟩ = some (.int .i64 f.To) := F163.out.cell 2; have cbk106_3 : (w149).cell? ⟨w83.heap.size, 3, none⟩ = some (.int .i64 f.Seq) := F163.out.cell 3; have cbk106_4 : (w149).cell? ⟨w83.heap.size, 4, none⟩ = some (.int .i64 f.Fragment) := F163.out.cell 4; have cbk106_5 : (w149).cell? ⟨w83.heap.size, 5, none⟩ = some (.bool f.More) := F163.out.cell 5; have cbk106_6 : (w149).cell? ⟨w83.heap.size, 6, none⟩ = some (.bool f.Retry) := F163.out.cell 6; have cbk106_7 : (w149).cell? ⟨w83.heap.size, 7, none⟩ = some (.int .i64 f.Duration) := F163.out.cell 7; have cbk106_8 : (w149).cell? ⟨w83.heap.size, 8, none⟩ = some (.slice A84 n85 c86) := F163.out.cell 8; have cbk10_0 : (w149).cell? ⟨w.heap.size, 0, none⟩ = some (.int .i64 f.Kind) := F162.out.cell 0; have cbk10_1 : (w149).cell? ⟨w.heap.size, 1, none⟩ = some (.int .i64 f.From) := F162.out.cell 1; have cbk10_2 : (w149).cell? ⟨w.heap.size, 2, none⟩ = some (.int .i64 f.To) := F162.out.cell 2; have cbk10_3 : (w149).cell? ⟨w.heap.size, 3, none⟩ = some (.int .i64 f.Seq) := F162.out.cell 3; have cbk10_4 : (w149).cell? ⟨w.heap.size, 4, none⟩ = some (.int .i64 f.Fragment) := F162.out.cell 4; have cbk10_5 : (w149).cell? ⟨w.heap.size, 5, none⟩ = some (.bool f.More) := F162.out.cell 5; have cbk10_6 : (w149).cell? ⟨w.heap.size, 6, none⟩ = some (.bool f.Retry) := F162.out.cell 6; have cbk10_7 : (w149).cell? ⟨w.heap.size, 7, none⟩ = some (.int .i64 f.Duration) := F162.out.cell 7; have cbk10_8 : (w149).cell? ⟨w.heap.size, 8, none⟩ = some (.slice Af nf cf) := F162.out.cell 8)
        | (go_at_call 38; refine (ux.eqMacFrame F161.out.rd F155.out.rd).mono ?_; rintro e w164 hp; obtain ⟨rfl, hb⟩ := bx.b_parts rfl hp; clear hp; have B165 := Lib.hid (B156.out.trans (hb.mono B156.out.size)); have Z166 := Lib.hid hb.size; have F167 := Lib.hid (F158.out.below hb); have F168 := Lib.hid (F159.out.below hb); have F169 := Lib.hid (F160.out.below hb); have F170 := Lib.hid (F161.out.below hb); have F171 := Lib.hid (F155.out.below hb); have F172 := Lib.hid (F162.out.below hb); have F173 := Lib.hid (F163.out.below hb); clear hb B156 F158 F159 F160 F161 F155 F162 F163; have cdk106_0 : (w164).cell? ⟨w83.heap.size, 0, none⟩ = some (.int .i64 f.Kind) := F173.out.cell 0; have cdk106_1 : (w164).cell? ⟨w83.heap.size, 1, none⟩ = some (.int .i64 f.From) := F173.out.cell 1; have cdk106_2 : (w164).cell? ⟨w83.heap.size, 2, none⟩ = some (.int .i64 f.To) := F173.out.cell 2; have cdk106_3 : (w164).cell? ⟨w83.heap.size, 3, none⟩ = some (.int .i64 f.Seq) := F173.out.cell 3; have cdk106_4 : (w164).cell? ⟨w83.heap.size, 4, none⟩ = some (.int .i64 f.Fragment) := F173.out.cell 4; have cdk106_5 : (w164).cell? ⟨w83.heap.size, 5, none⟩ = some (.bool f.More) := F173.out.cell 5; have cdk106_6 : (w164).cell? ⟨w83.heap.size, 6, none⟩ = some (.bool f.Retry) := F173.out.cell 6; have cdk106_7 : (w164).cell? ⟨w83.heap.size, 7, none⟩ = some (.int .i64 f.Duration) := F173.out.cell 7; have cdk106_8 : (w164).cell? ⟨w83.heap.size, 8, none⟩ = some (.slice A84 n85 c86) := F173.out.cell 8; have cdk10_0 : (w164).cell? ⟨w.heap.size, 0, none⟩ = some (.int .i64 f.Kind) := F172.out.cell 0; have cdk10_1 : (w164).cell? ⟨w.heap.size, 1, none⟩ = some (.int .i64 f.From) := F172.out.cell 1; have cdk10_2 : (w164).cell? ⟨w.heap.size, 2, none⟩ = some (.int .i64 f.To) := F172.out.cell 2; have cdk10_3 : (w164).cell? ⟨w.heap.size, 3, none⟩ = some (.int .i64 f.Seq) := F172.out.cell 3; have cdk10_4 : (w164).cell? ⟨w.heap.size, 4, none⟩ = some (.int .i64 f.Fragment) := F172.out.cell 4; have cdk10_5 : (w164).cell? ⟨w.heap.size, 5, none⟩ = some (.bool f.More) := F172.out.cell 5; have cdk10_6 : (w164).cell? ⟨w.heap.size, 6, none⟩ = some (.bool f.Retry) := F172.out.cell 6; have cdk10_7 : (w164).cell? ⟨w.heap.size, 7, none⟩ = some (.int .i64 f.Duration) := F172.out.cell 7; have cdk10_8 : (w164).cell? ⟨w.heap.size, 8, none⟩ = some (.slice Af nf cf) := F172.out.cell 8))
      clear cak106_0 cak106_1 cak106_2 cak106_3 cak106_4 cak106_5 cak106_6 cak106_7 cak106_8 cak10_0 cak10_1 cak10_2 cak10_3 cak10_4 cak10_5 cak10_6 cak10_7 cak10_8 cbk106_0 cbk106_1 cbk106_2 cbk106_3 cbk106_4 cbk106_5 cbk106_6 cbk106_7 cbk106_8 cbk10_0 cbk10_1 cbk10_2 cbk10_3 cbk10_4 cbk10_5 cbk10_6 cbk10_7 cbk10_8 cdk106_0 cdk106_1 cdk106_2 cdk106_3 cdk106_4 cdk106_5 cdk106_6 cdk106_7 cdk106_8 cdk10_0 cdk10_1 cdk10_2 cdk10_3 cdk10_4 cdk10_5 cdk10_6 cdk10_7 cdk10_8
      clear F171
      have ck10_0 : (w164).cell? ⟨w.heap.size, 0, none⟩ = some (.int .i64 f.Kind) := F172.out.cell 0
      have ck10_1 : (w164).cell? ⟨w.heap.size, 1, none⟩ = some (.int .i64 f.From) := F172.out.cell 1
      have ck10_2 : (w164).cell? ⟨w.heap.size, 2, none⟩ = some (.int .i64 f.To) := F172.out.cell 2
      have ck10_3 : (w164).cell? ⟨w.heap.size, 3, none⟩ = some (.int .i64 f.Seq) := F172.out.cell 3
      have ck10_4 : (w164).cell? ⟨w.heap.size, 4, none⟩ = some (.int .i64 f.Fragment) := F172.out.cell 4
      have ck10_5 : (w164).cell? ⟨w.heap.size, 5, none⟩ = some (.bool f.More) := F172.out.cell 5
      have ck10_6 : (w164).cell? ⟨w.heap.size, 6, none⟩ = some (.bool f.Retry) := F172.out.cell 6
      have ck10_7 : (w164).cell? ⟨w.heap.size, 7, none⟩ = some (.int .i64 f.Duration) := F172.out.cell 7
      have ck10_8 : (w164).cell? ⟨w.heap.size, 8, none⟩ = some (.slice Af nf cf) := F172.out.cell 8
      have ck106_0 : (w164).cell? ⟨w83.heap.size, 0, none⟩ = some (.int .i64 f.Kind) := F173.out.cell 0
      have ck106_1 : (w164).cell? ⟨w83.heap.size, 1, none⟩ = some (.int .i64 f.From) := F173.out.cell 1
      have ck106_2 : (w164).cell? ⟨w83.heap.size, 2, none⟩ = some (.int .i64 f.To) := F173.out.cell 2
      have ck106_3 : (w164).cell? ⟨w83.heap.size, 3, none⟩ = some (.int .i64 f.Seq) := F173.out.cell 3
      have ck106_4 : (w164).cell? ⟨w83.heap.size, 4, none⟩ = some (.int .i64 f.Fragment) := F173.out.cell 4
      have ck106_5 : (w164).cell? ⟨w83.heap.size, 5, none⟩ = some (.bool f.More) := F173.out.cell 5
      have ck106_6 : (w164).cell? ⟨w83.heap.size, 6, none⟩ = some (.bool f.Retry) := F173.out.cell 6
      have ck106_7 : (w164).cell? ⟨w83.heap.size, 7, none⟩ = some (.int .i64 f.Duration) := F173.out.cell 7
      have ck106_8 : (w164).cell? ⟨w83.heap.size, 8, none⟩ = some (.slice A84 n85 c86) := F173.out.cell 8
      go_wp2_with fail
      clear ck10_0 ck10_1 ck10_2 ck10_3 ck10_4 ck10_5 ck10_6 ck10_7 ck10_8 ck106_0 ck106_1 ck106_2 ck106_3 ck106_4 ck106_5 ck106_6 ck106_7 ck106_8
      go_ret
      exact ⟨rfl, B165.out⟩
theorem walkA (x0 : List ux.Sen) (A0 : Option Addr) (n0 c0 : Nat) (f0 f1 f2 f3 f4 : Int) (f5 f6 : Bool) (f7 : Int) (Af : Option Addr) (nf cf : Nat) (zf : List Int) (k : Int)  (w : World) (h0 : mrw.Rq sn.senS w 0 w.heap.size A0 n0 c0 x0) (rowf : kit.IsRow .u8 w Af nf cf zf)  :
    Calls Try.prog 7 #[.slice A0 n0 c0, .agg #[.int .i64 f0, .int .i64 f1, .int .i64 f2, .int .i64 f3, .int .i64 f4, .bool f5, .bool f6, .int .i64 f7, .slice Af nf cf], .int .i64 k] w fun e w' => e = .returned (.bool true) ∧ Below w.heap.size w w' := by
  obtain ⟨y, hr⟩ := sl.Rd.of_row rowf
  exact walk x0 A0 n0 c0 ⟨f0, f1, f2, f3, f4, f5, f6, f7, y⟩ Af nf cf k w h0 hr
end Go.Proofs.Ytbkdbdhbmabgcaa.xExactIsDuplicate
end

section
namespace Go.Proofs.Ytbkdbdhbmabgcaa.xExactRememberFrame
open Go.RowKit sl harn bx
set_option linter.unusedVariables false
set_option maxRecDepth 100000 in
set_option maxHeartbeats 4000000 in
theorem walk (x0 : List ux.Sen) (A0 : Option Addr) (n0 c0 : Nat) (f : ux.Fra) (Af : Option Addr) (nf cf : Nat) (k : Int)  (w : World) (h0 : mrw.Rq sn.senS w 0 w.heap.size A0 n0 c0 x0) (hf : sl.Rd .u8 w 0 w.heap.size Af nf cf f.Body)  :
    Calls Try.prog 8 #[.slice A0 n0 c0, ux.fraV f (.slice Af nf cf), .int .i64 k] w fun e w' => e = .returned (.bool true) ∧ Below w.heap.size w w' := by
  have B1 := Lib.hid (Below.refl w.heap.size w)
  have F2 := Lib.hid (sn.sen_rr h0)
  have F3 := Lib.hid (fr.fra_of (f := f) hf)
  clear hf
  have HL0 := Lib.hid h0.len
  clear h0
  go_enter Try.func8, Try.ntmps8
  go_upto_region 1 with fail
  obtain ⟨we, hW⟩ : ∃ w0, w.alloc (.cells #[.int .i64 f.Kind, .int .i64 f.From, .int .i64 f.To, .int .i64 f.Seq, .int .i64 f.Fragment, .bool f.More, .bool f.Retry, .int .i64 f.Duration, .slice Af nf cf] 56) = w0 := ⟨_, rfl⟩
  rw [hW]
  have hb : Below w.heap.size w we := by rw [← hW]; exact (Below.refl _ _).alloc (by simp <;> omega) _
  have hz9 : w.heap.size + 1 ≤ we.heap.size := by rw [← hW]; simp
  have Z4 := Lib.hid hz9
  clear hz9
  have B5 := Lib.hid (B1.out.trans (hb.mono B1.out.size))
  have Z6 := Lib.hid hb.size
  have F7 := Lib.hid (F2.out.below hb)
  have F8 := Lib.hid (F3.out.below hb)
  clear hb B1 F2 F3
  have X9 := Lib.hid (show bx.Bx 56 we (w.heap.size) #[.int .i64 f.Kind, .int .i64 f.From, .int .i64 f.To, .int .i64 f.Seq, .int .i64 f.Fragment, .bool f.More, .bool f.Retry, .int .i64 f.Duration, .slice Af nf cf] by
      rw [← hW]
      have hh := bx.Bx.made 56 w #[.int .i64 f.Kind, .int .i64 f.From, .int .i64 f.To, .int .i64 f.Seq, .int .i64 f.Fragment, .bool f.More, .bool f.Retry, .int .i64 f.Duration, .slice Af nf cf]
      exact hh)
  clear hW
  have ck10_0 : (we).cell? ⟨w.heap.size, 0, none⟩ = some (.int .i64 f.Kind) := X9.out.cell 0
  have ck10_1 : (we).cell? ⟨w.heap.size, 1, none⟩ = some (.int .i64 f.From) := X9.out.cell 1
  have ck10_2 : (we).cell? ⟨w.heap.size, 2, none⟩ = some (.int .i64 f.To) := X9.out.cell 2
  have ck10_3 : (we).cell? ⟨w.heap.size, 3, none⟩ = some (.int .i64 f.Seq) := X9.out.cell 3
  have ck10_4 : (we).cell? ⟨w.heap.size, 4, none⟩ = some (.int .i64 f.Fragment) := X9.out.cell 4
  have ck10_5 : (we).cell? ⟨w.heap.size, 5, none⟩ = some (.bool f.More) := X9.out.cell 5
  have ck10_6 : (we).cell? ⟨w.heap.size, 6, none⟩ = some (.bool f.Retry) := X9.out.cell 6
  have ck10_7 : (we).cell? ⟨w.heap.size, 7, none⟩ = some (.int .i64 f.Duration) := X9.out.cell 7
  have ck10_8 : (we).cell? ⟨w.heap.size, 8, none⟩ = some (.slice Af nf cf) := X9.out.cell 8
  go_wp2_with fail
  clear ck10_0 ck10_1 ck10_2 ck10_3 ck10_4 ck10_5 ck10_6 ck10_7 ck10_8
  (with_reducible refine (ux.szSeenFrameS (1048576) (by omega) F7.out).mono ?_)
  rintro e w11 hp
  obtain ⟨r12, rfl, H13, hb⟩ := hp.parts
  have B14 := Lib.hid (B5.out.trans (hb.mono B5.out.size))
  have Z15 := Lib.hid hb.size
  have F16 := Lib.hid (F7.out.below hb)
  have F17 := Lib.hid (F8.out.below hb)
  have F18 := Lib.hid (X9.out.below hb)
  clear hb B5 F7 F8 X9
  rcases H13 with ⟨hr, _⟩ | ⟨hr, ht⟩
  · subst hr
    go_wp2_with fail
    go_ret
    exact ⟨rfl, B14.out⟩
  · have Q19 := Lib.hid (show 0 ≤ r12 ∧ r12 ≤ 1048576 by have := (by omega); omega)
    have S20 := Lib.hid (show ux.rowSen.sz x0 ≤ 67108864 by have := (by omega); omega)
    have S21 := Lib.hid (show ux.rowSen.sz x0 ≤ 1048576 by have := (by omega); omega)
    have ngr12 : ¬ r12 < 0 := by have := Q19.out; omega
    clear hr ht
    have ck10_0 : (w11).cell? ⟨w.heap.size, 0, none⟩ = some (.int .i64 f.Kind) := F18.out.cell 0
    have ck10_1 : (w11).cell? ⟨w.heap.size, 1, none⟩ = some (.int .i64 f.From) := F18.out.cell 1
    have ck10_2 : (w11).cell? ⟨w.heap.size, 2, none⟩ = some (.int .i64 f.To) := F18.out.cell 2
    have ck10_3 : (w11).cell? ⟨w.heap.size, 3, none⟩ = some (.int .i64 f.Seq) := F18.out.cell 3
    have ck10_4 : (w11).cell? ⟨w.heap.size, 4, none⟩ = some (.int .i64 f.Fragment) := F18.out.cell 4
    have ck10_5 : (w11).cell? ⟨w.heap.size, 5, none⟩ = some (.bool f.More) := F18.out.cell 5
    have ck10_6 : (w11).cell? ⟨w.heap.size, 6, none⟩ = some (.bool f.Retry) := F18.out.cell 6
    have ck10_7 : (w11).cell? ⟨w.heap.size, 7, none⟩ = some (.int .i64 f.Duration) := F18.out.cell 7
    have ck10_8 : (w11).cell? ⟨w.heap.size, 8, none⟩ = some (.slice Af nf cf) := F18.out.cell 8
    go_wp2_with fail
    clear ck10_0 ck10_1 ck10_2 ck10_3 ck10_4 ck10_5 ck10_6 ck10_7 ck10_8
    (with_reducible refine (ux.szMacFrame (r12) (Q19.out) F17.out).mono ?_)
    rintro e w22 hp
    obtain ⟨r23, rfl, H24, hb⟩ := hp.parts
    have B25 := Lib.hid (B14.out.trans (hb.mono B14.out.size))
    have Z26 := Lib.hid hb.size
    have F27 := Lib.hid (F16.out.below hb)
    have F28 := Lib.hid (F17.out.below hb)
    have F29 := Lib.hid (F18.out.below hb)
    clear hb B14 F16 F17 F18
    rcases H24 with ⟨hr, _⟩ | ⟨hr, ht⟩
    · subst hr
      go_wp2_with fail
      go_ret
      exact ⟨rfl, B25.out⟩
    · have Q30 := Lib.hid (show 0 ≤ r23 ∧ r23 ≤ 1048576 by have := (Q19.out); omega)
      have S31 := Lib.hid (show ux.fra.sz f ≤ 67108864 by have := (Q19.out); omega)
      have S32 := Lib.hid (show ux.fra.sz f ≤ 1048576 by have := (Q19.out); omega)
      have ngr23 : ¬ r23 < 0 := by have := Q30.out; omega
      clear hr ht
      have HN0 := Lib.hid (show n0 ≤ 1048576 by have h1 := S21.out; rw [sn.row_len] at h1; have h2 := HL0.out; omega)
      obtain ⟨l9, hl9⟩ : ∃ l, sn.rem x0 f k = l := ⟨_, rfl⟩
      have HX := Lib.hid hl9
      have SL := Lib.hid (show ux.rowSen.sz l9 ≤ 67108864 by rw [← hl9, sn.row_len]; have h1 := sn.rem_len x0 f k; have h2 := HL0.out; have h3 := HN0.out; omega)
      clear hl9
      have ck10_0 : (w22).cell? ⟨w.heap.size, 0, none⟩ = some (.int .i64 f.Kind) := F29.out.cell 0
      have ck10_1 : (w22).cell? ⟨w.heap.size, 1, none⟩ = some (.int .i64 f.From) := F29.out.cell 1
      have ck10_2 : (w22).cell? ⟨w.heap.size, 2, none⟩ = some (.int .i64 f.To) := F29.out.cell 2
      have ck10_3 : (w22).cell? ⟨w.heap.size, 3, none⟩ = some (.int .i64 f.Seq) := F29.out.cell 3
      have ck10_4 : (w22).cell? ⟨w.heap.size, 4, none⟩ = some (.int .i64 f.Fragment) := F29.out.cell 4
      have ck10_5 : (w22).cell? ⟨w.heap.size, 5, none⟩ = some (.bool f.More) := F29.out.cell 5
      have ck10_6 : (w22).cell? ⟨w.heap.size, 6, none⟩ = some (.bool f.Retry) := F29.out.cell 6
      have ck10_7 : (w22).cell? ⟨w.heap.size, 7, none⟩ = some (.int .i64 f.Duration) := F29.out.cell 7
      have ck10_8 : (w22).cell? ⟨w.heap.size, 8, none⟩ = some (.slice Af nf cf) := F29.out.cell 8
      go_wp2_with fail
      clear ck10_0 ck10_1 ck10_2 ck10_3 ck10_4 ck10_5 ck10_6 ck10_7 ck10_8
      have hb : Below w22.heap.size w22 w22.drew := own.below_drew (Below.refl _ _)
      have B33 := Lib.hid (B25.out.trans (hb.mono B25.out.size))
      have Z34 := Lib.hid hb.size
      have F35 := Lib.hid (F27.out.below hb)
      have F36 := Lib.hid (F28.out.below hb)
      have F37 := Lib.hid (F29.out.below hb)
      clear hb B25 F27 F28 F29
      have cak10_0 : (w22.drew).cell? ⟨w.heap.size, 0, none⟩ = some (.int .i64 f.Kind) := F37.out.cell 0
      have cak10_1 : (w22.drew).cell? ⟨w.heap.size, 1, none⟩ = some (.int .i64 f.From) := F37.out.cell 1
      have cak10_2 : (w22.drew).cell? ⟨w.heap.size, 2, none⟩ = some (.int .i64 f.To) := F37.out.cell 2
      have cak10_3 : (w22.drew).cell? ⟨w.heap.size, 3, none⟩ = some (.int .i64 f.Seq) := F37.out.cell 3
      have cak10_4 : (w22.drew).cell? ⟨w.heap.size, 4, none⟩ = some (.int .i64 f.Fragment) := F37.out.cell 4
      have cak10_5 : (w22.drew).cell? ⟨w.heap.size, 5, none⟩ = some (.bool f.More) := F37.out.cell 5
      have cak10_6 : (w22.drew).cell? ⟨w.heap.size, 6, none⟩ = some (.bool f.Retry) := F37.out.cell 6
      have cak10_7 : (w22.drew).cell? ⟨w.heap.size, 7, none⟩ = some (.int .i64 f.Duration) := F37.out.cell 7
      have cak10_8 : (w22.drew).cell? ⟨w.heap.size, 8, none⟩ = some (.slice Af nf cf) := F37.out.cell 8
      go_region_held3 (fun w' => w'.cell? ⟨w.heap.size, 0, none⟩ = some (.int .i64 f.Kind) ∧ w'.cell? ⟨w.heap.size, 1, none⟩ = some (.int .i64 f.From) ∧ w'.cell? ⟨w.heap.size, 2, none⟩ = some (.int .i64 f.To) ∧ w'.cell? ⟨w.heap.size, 3, none⟩ = some (.int .i64 f.Seq) ∧ w'.cell? ⟨w.heap.size, 4, none⟩ = some (.int .i64 f.Fragment) ∧ w'.cell? ⟨w.heap.size, 5, none⟩ = some (.bool f.More) ∧ w'.cell? ⟨w.heap.size, 6, none⟩ = some (.bool f.Retry) ∧ w'.cell? ⟨w.heap.size, 7, none⟩ = some (.int .i64 f.Duration) ∧ w'.cell? ⟨w.heap.size, 8, none⟩ = some (.slice Af nf cf)) (first | (with_reducible exact ⟨cak10_0, cak10_1, cak10_2, cak10_3, cak10_4, cak10_5, cak10_6, cak10_7, cak10_8⟩) | (with_reducible exact ⟨cbk10_0, cbk10_1, cbk10_2, cbk10_3, cbk10_4, cbk10_5, cbk10_6, cbk10_7, cbk10_8⟩) | (with_reducible exact ⟨cdk10_0, cdk10_1, cdk10_2, cdk10_3, cdk10_4, cdk10_5, cdk10_6, cdk10_7, cdk10_8⟩) | (with_reducible exact ⟨cek10_0, cek10_1, cek10_2, cek10_3, cek10_4, cek10_5, cek10_6, cek10_7, cek10_8⟩))
        (first
        | (go_at_call 34; (with_reducible refine (ux.toSeenFrameS F35.out S20.out).mono ?_); rintro e w38 hp; obtain ⟨v43, fp42, rfl, ho, hb⟩ := hp.parts; clear hp; obtain ⟨A39, n40, c41, rfl⟩ := ux.rowSen_slo ho.1; have F44 := Lib.hid ho; clear ho; have B45 := Lib.hid (B33.out.trans (hb.mono B33.out.size)); have Z46 := Lib.hid hb.size; have F47 := Lib.hid (F35.out.below hb); have F48 := Lib.hid (F36.out.below hb); have F49 := Lib.hid (F37.out.below hb); clear hb B33 F35 F36 F37; have cbk10_0 : (w38).cell? ⟨w.heap.size, 0, none⟩ = some (.int .i64 f.Kind) := F49.out.cell 0; have cbk10_1 : (w38).cell? ⟨w.heap.size, 1, none⟩ = some (.int .i64 f.From) := F49.out.cell 1; have cbk10_2 : (w38).cell? ⟨w.heap.size, 2, none⟩ = some (.int .i64 f.To) := F49.out.cell 2; have cbk10_3 : (w38).cell? ⟨w.heap.size, 3, none⟩ = some (.int .i64 f.Seq) := F49.out.cell 3; have cbk10_4 : (w38).cell? ⟨w.heap.size, 4, none⟩ = some (.int .i64 f.Fragment) := F49.out.cell 4; have cbk10_5 : (w38).cell? ⟨w.heap.size, 5, none⟩ = some (.bool f.More) := F49.out.cell 5; have cbk10_6 : (w38).cell? ⟨w.heap.size, 6, none⟩ = some (.bool f.Retry) := F49.out.cell 6; have cbk10_7 : (w38).cell? ⟨w.heap.size, 7, none⟩ = some (.int .i64 f.Duration) := F49.out.cell 7; have cbk10_8 : (w38).cell? ⟨w.heap.size, 8, none⟩ = some (.slice Af nf cf) := F49.out.cell 8)
        | (go_at_call 37; (with_reducible refine (ux.toMacFrame F48.out S31.out).mono ?_); rintro e w50 hp; obtain ⟨v55, fp54, rfl, ho, hb⟩ := hp.parts; clear hp; obtain ⟨A51, n52, c53, f9, rfl, _, _, _⟩ := ux.fra_o ho; have F56 := Lib.hid ho; clear ho; have B57 := Lib.hid (B45.out.trans (hb.mono B45.out.size)); have Z58 := Lib.hid hb.size; have F59 := Lib.hid (F47.out.below hb); have F60 := Lib.hid (F48.out.below hb); have F61 := Lib.hid (F44.out.below hb); have F62 := Lib.hid (F49.out.below hb); clear hb B45 F47 F48 F44 F49; have cdk10_0 : (w50).cell? ⟨w.heap.size, 0, none⟩ = some (.int .i64 f.Kind) := F62.out.cell 0; have cdk10_1 : (w50).cell? ⟨w.heap.size, 1, none⟩ = some (.int .i64 f.From) := F62.out.cell 1; have cdk10_2 : (w50).cell? ⟨w.heap.size, 2, none⟩ = some (.int .i64 f.To) := F62.out.cell 2; have cdk10_3 : (w50).cell? ⟨w.heap.size, 3, none⟩ = some (.int .i64 f.Seq) := F62.out.cell 3; have cdk10_4 : (w50).cell? ⟨w.heap.size, 4, none⟩ = some (.int .i64 f.Fragment) := F62.out.cell 4; have cdk10_5 : (w50).cell? ⟨w.heap.size, 5, none⟩ = some (.bool f.More) := F62.out.cell 5; have cdk10_6 : (w50).cell? ⟨w.heap.size, 6, none⟩ = some (.bool f.Retry) := F62.out.cell 6; have cdk10_7 : (w50).cell? ⟨w.heap.size, 7, none⟩ = some (.int .i64 f.Duration) := F62.out.cell 7; have cdk10_8 : (w50).cell? ⟨w.heap.size, 8, none⟩ = some (.slice Af nf cf) := F62.out.cell 8)
        | (go_at_call 39; (with_reducible refine (HX.out ▸ sn.specRm x0 A39 n40 c41 _ _ _ (sn.sen_rq F61.out.rd) (by have h1 := (sn.sen_rq F61.out.rd).len; have h2 := HL0.out; have h3 := HN0.out; omega) f k A51 n52 c53).mono ?_); rintro e w63 hp; obtain ⟨A64, n65, c66, rfl, ho, hb⟩ := sn.nn_parts hp; clear hp; obtain ⟨fp67, ho2⟩ := sn.sen_oo ho; clear ho; have F68 := Lib.hid ho2; clear ho2; have B69 := Lib.hid (B57.out.trans (hb.mono B57.out.size)); have Z70 := Lib.hid hb.size; have F71 := Lib.hid (F59.out.below hb); have F72 := Lib.hid (F60.out.below hb); have F73 := Lib.hid (F61.out.below hb); have F74 := Lib.hid (F56.out.below hb); have F75 := Lib.hid (F62.out.below hb); clear hb B57 F59 F60 F61 F56 F62; have cek10_0 : (w63).cell? ⟨w.heap.size, 0, none⟩ = some (.int .i64 f.Kind) := F75.out.cell 0; have cek10_1 : (w63).cell? ⟨w.heap.size, 1, none⟩ = some (.int .i64 f.From) := F75.out.cell 1; have cek10_2 : (w63).cell? ⟨w.heap.size, 2, none⟩ = some (.int .i64 f.To) := F75.out.cell 2; have cek10_3 : (w63).cell? ⟨w.heap.size, 3, none⟩ = some (.int .i64 f.Seq) := F75.out.cell 3; have cek10_4 : (w63).cell? ⟨w.heap.size, 4, none⟩ = some (.int .i64 f.Fragment) := F75.out.cell 4; have cek10_5 : (w63).cell? ⟨w.heap.size, 5, none⟩ = some (.bool f.More) := F75.out.cell 5; have cek10_6 : (w63).cell? ⟨w.heap.size, 6, none⟩ = some (.bool f.Retry) := F75.out.cell 6; have cek10_7 : (w63).cell? ⟨w.heap.size, 7, none⟩ = some (.int .i64 f.Duration) := F75.out.cell 7; have cek10_8 : (w63).cell? ⟨w.heap.size, 8, none⟩ = some (.slice Af nf cf) := F75.out.cell 8))
      clear cak10_0 cak10_1 cak10_2 cak10_3 cak10_4 cak10_5 cak10_6 cak10_7 cak10_8 cbk10_0 cbk10_1 cbk10_2 cbk10_3 cbk10_4 cbk10_5 cbk10_6 cbk10_7 cbk10_8 cdk10_0 cdk10_1 cdk10_2 cdk10_3 cdk10_4 cdk10_5 cdk10_6 cdk10_7 cdk10_8 cek10_0 cek10_1 cek10_2 cek10_3 cek10_4 cek10_5 cek10_6 cek10_7 cek10_8
      clear F73
      clear F74
      have ck10_0 : (w63).cell? ⟨w.heap.size, 0, none⟩ = some (.int .i64 f.Kind) := F75.out.cell 0
      have ck10_1 : (w63).cell? ⟨w.heap.size, 1, none⟩ = some (.int .i64 f.From) := F75.out.cell 1
      have ck10_2 : (w63).cell? ⟨w.heap.size, 2, none⟩ = some (.int .i64 f.To) := F75.out.cell 2
      have ck10_3 : (w63).cell? ⟨w.heap.size, 3, none⟩ = some (.int .i64 f.Seq) := F75.out.cell 3
      have ck10_4 : (w63).cell? ⟨w.heap.size, 4, none⟩ = some (.int .i64 f.Fragment) := F75.out.cell 4
      have ck10_5 : (w63).cell? ⟨w.heap.size, 5, none⟩ = some (.bool f.More) := F75.out.cell 5
      have ck10_6 : (w63).cell? ⟨w.heap.size, 6, none⟩ = some (.bool f.Retry) := F75.out.cell 6
      have ck10_7 : (w63).cell? ⟨w.heap.size, 7, none⟩ = some (.int .i64 f.Duration) := F75.out.cell 7
      have ck10_8 : (w63).cell? ⟨w.heap.size, 8, none⟩ = some (.slice Af nf cf) := F75.out.cell 8
      go_wp2_with fail
      clear ck10_0 ck10_1 ck10_2 ck10_3 ck10_4 ck10_5 ck10_6 ck10_7 ck10_8
      (with_reducible refine (ux.toSeenFrameS F71.out S20.out).mono ?_)
      rintro e w76 hp
      obtain ⟨v81, fp80, rfl, ho, hb⟩ := hp.parts
      clear hp
      obtain ⟨A77, n78, c79, rfl⟩ := ux.rowSen_slo ho.1
      have F82 := Lib.hid ho
      clear ho
      have B83 := Lib.hid (B69.out.trans (hb.mono B69.out.size))
      have Z84 := Lib.hid hb.size
      have F85 := Lib.hid (F71.out.below hb)
      have F86 := Lib.hid (F72.out.below hb)
      have F87 := Lib.hid (F68.out.below hb)
      have F88 := Lib.hid (F75.out.below hb)
      clear hb B69 F71 F72 F68 F75
      have ck10_0 : (w76).cell? ⟨w.heap.size, 0, none⟩ = some (.int .i64 f.Kind) := F88.out.cell 0
      have ck10_1 : (w76).cell? ⟨w.heap.size, 1, none⟩ = some (.int .i64 f.From) := F88.out.cell 1
      have ck10_2 : (w76).cell? ⟨w.heap.size, 2, none⟩ = some (.int .i64 f.To) := F88.out.cell 2
      have ck10_3 : (w76).cell? ⟨w.heap.size, 3, none⟩ = some (.int .i64 f.Seq) := F88.out.cell 3
      have ck10_4 : (w76).cell? ⟨w.heap.size, 4, none⟩ = some (.int .i64 f.Fragment) := F88.out.cell 4
      have ck10_5 : (w76).cell? ⟨w.heap.size, 5, none⟩ = some (.bool f.More) := F88.out.cell 5
      have ck10_6 : (w76).cell? ⟨w.heap.size, 6, none⟩ = some (.bool f.Retry) := F88.out.cell 6
      have ck10_7 : (w76).cell? ⟨w.heap.size, 7, none⟩ = some (.int .i64 f.Duration) := F88.out.cell 7
      have ck10_8 : (w76).cell? ⟨w.heap.size, 8, none⟩ = some (.slice Af nf cf) := F88.out.cell 8
      go_wp2_with fail
      clear ck10_0 ck10_1 ck10_2 ck10_3 ck10_4 ck10_5 ck10_6 ck10_7 ck10_8
      (with_reducible refine (ux.toMacFrame F86.out S31.out).mono ?_)
      rintro e w89 hp
      obtain ⟨v94, fp93, rfl, ho, hb⟩ := hp.parts
      clear hp
      obtain ⟨A90, n91, c92, f9, rfl, _, _, _⟩ := ux.fra_o ho
      have F95 := Lib.hid ho
      clear ho
      have B96 := Lib.hid (B83.out.trans (hb.mono B83.out.size))
      have Z97 := Lib.hid hb.size
      have F98 := Lib.hid (F85.out.below hb)
      have F99 := Lib.hid (F86.out.below hb)
      have F100 := Lib.hid (F87.out.below hb)
      have F101 := Lib.hid (F82.out.below hb)
      have F102 := Lib.hid (F88.out.below hb)
      clear hb B83 F85 F86 F87 F82 F88
      obtain ⟨V103, hV103⟩ : ∃ x, x = w89.alloc (.cells #[.int .i64 f.Kind, .int .i64 f.From, .int .i64 f.To, .int .i64 f.Seq, .int .i64 f.Fragment, .bool f.More, .bool f.Retry, .int .i64 f.Duration, .slice A90 n91 c92] 25) := ⟨_, rfl⟩
      have hb : Below w89.heap.size w89 V103 := by rw [hV103]; exact bx.below_box _ _
      have hz9 : w89.heap.size + 1 ≤ V103.heap.size := by rw [hV103]; simp
      have Z104 := Lib.hid hz9
      clear hz9
      have B105 := Lib.hid (B96.out.trans (hb.mono B96.out.size))
      have Z106 := Lib.hid hb.size
      have F107 := Lib.hid (F98.out.below hb)
      have F108 := Lib.hid (F99.out.below hb)
      have F109 := Lib.hid (F100.out.below hb)
      have F110 := Lib.hid (F101.out.below hb)
      have F111 := Lib.hid (F95.out.below hb)
      have F112 := Lib.hid (F102.out.below hb)
      clear hb B96 F98 F99 F100 F101 F95 F102
      have X113 := Lib.hid (show bx.Bx 25 V103 w89.heap.size #[.int .i64 f.Kind, .int .i64 f.From, .int .i64 f.To, .int .i64 f.Seq, .int .i64 f.Fragment, .bool f.More, .bool f.Retry, .int .i64 f.Duration, .slice A90 n91 c92] by rw [hV103]; exact bx.Bx.made _ _ _)
      have ck10_0 : (w89.alloc (.cells #[.int .i64 f.Kind, .int .i64 f.From, .int .i64 f.To, .int .i64 f.Seq, .int .i64 f.Fragment, .bool f.More, .bool f.Retry, .int .i64 f.Duration, .slice A90 n91 c92] 25)).cell? ⟨w.heap.size, 0, none⟩ = some (.int .i64 f.Kind) := by rw [← hV103]; exact F112.out.cell 0
      have ck10_1 : (w89.alloc (.cells #[.int .i64 f.Kind, .int .i64 f.From, .int .i64 f.To, .int .i64 f.Seq, .int .i64 f.Fragment, .bool f.More, .bool f.Retry, .int .i64 f.Duration, .slice A90 n91 c92] 25)).cell? ⟨w.heap.size, 1, none⟩ = some (.int .i64 f.From) := by rw [← hV103]; exact F112.out.cell 1
      have ck10_2 : (w89.alloc (.cells #[.int .i64 f.Kind, .int .i64 f.From, .int .i64 f.To, .int .i64 f.Seq, .int .i64 f.Fragment, .bool f.More, .bool f.Retry, .int .i64 f.Duration, .slice A90 n91 c92] 25)).cell? ⟨w.heap.size, 2, none⟩ = some (.int .i64 f.To) := by rw [← hV103]; exact F112.out.cell 2
      have ck10_3 : (w89.alloc (.cells #[.int .i64 f.Kind, .int .i64 f.From, .int .i64 f.To, .int .i64 f.Seq, .int .i64 f.Fragment, .bool f.More, .bool f.Retry, .int .i64 f.Duration, .slice A90 n91 c92] 25)).cell? ⟨w.heap.size, 3, none⟩ = some (.int .i64 f.Seq) := by rw [← hV103]; exact F112.out.cell 3
      have ck10_4 : (w89.alloc (.cells #[.int .i64 f.Kind, .int .i64 f.From, .int .i64 f.To, .int .i64 f.Seq, .int .i64 f.Fragment, .bool f.More, .bool f.Retry, .int .i64 f.Duration, .slice A90 n91 c92] 25)).cell? ⟨w.heap.size, 4, none⟩ = some (.int .i64 f.Fragment) := by rw [← hV103]; exact F112.out.cell 4
      have ck10_5 : (w89.alloc (.cells #[.int .i64 f.Kind, .int .i64 f.From, .int .i64 f.To, .int .i64 f.Seq, .int .i64 f.Fragment, .bool f.More, .bool f.Retry, .int .i64 f.Duration, .slice A90 n91 c92] 25)).cell? ⟨w.heap.size, 5, none⟩ = some (.bool f.More) := by rw [← hV103]; exact F112.out.cell 5
      have ck10_6 : (w89.alloc (.cells #[.int .i64 f.Kind, .int .i64 f.From, .int .i64 f.To, .int .i64 f.Seq, .int .i64 f.Fragment, .bool f.More, .bool f.Retry, .int .i64 f.Duration, .slice A90 n91 c92] 25)).cell? ⟨w.heap.size, 6, none⟩ = some (.bool f.Retry) := by rw [← hV103]; exact F112.out.cell 6
      have ck10_7 : (w89.alloc (.cells #[.int .i64 f.Kind, .int .i64 f.From, .int .i64 f.To, .int .i64 f.Seq, .int .i64 f.Fragment, .bool f.More, .bool f.Retry, .int .i64 f.Duration, .slice A90 n91 c92] 25)).cell? ⟨w.heap.size, 7, none⟩ = some (.int .i64 f.Duration) := by rw [← hV103]; exact F112.out.cell 7
      have ck10_8 : (w89.alloc (.cells #[.int .i64 f.Kind, .int .i64 f.From, .int .i64 f.To, .int .i64 f.Seq, .int .i64 f.Fragment, .bool f.More, .bool f.Retry, .int .i64 f.Duration, .slice A90 n91 c92] 25)).cell? ⟨w.heap.size, 8, none⟩ = some (.slice Af nf cf) := by rw [← hV103]; exact F112.out.cell 8
      have ck114_0 : (w89.alloc (.cells #[.int .i64 f.Kind, .int .i64 f.From, .int .i64 f.To, .int .i64 f.Seq, .int .i64 f.Fragment, .bool f.More, .bool f.Retry, .int .i64 f.Duration, .slice A90 n91 c92] 25)).cell? ⟨w89.heap.size, 0, none⟩ = some (.int .i64 f.Kind) := by rw [← hV103]; exact X113.out.cell 0
      have ck114_1 : (w89.alloc (.cells #[.int .i64 f.Kind, .int .i64 f.From, .int .i64 f.To, .int .i64 f.Seq, .int .i64 f.Fragment, .bool f.More, .bool f.Retry, .int .i64 f.Duration, .slice A90 n91 c92] 25)).cell? ⟨w89.heap.size, 1, none⟩ = some (.int .i64 f.From) := by rw [← hV103]; exact X113.out.cell 1
      have ck114_2 : (w89.alloc (.cells #[.int .i64 f.Kind, .int .i64 f.From, .int .i64 f.To, .int .i64 f.Seq, .int .i64 f.Fragment, .bool f.More, .bool f.Retry, .int .i64 f.Duration, .slice A90 n91 c92] 25)).cell? ⟨w89.heap.size, 2, none⟩ = some (.int .i64 f.To) := by rw [← hV103]; exact X113.out.cell 2
      have ck114_3 : (w89.alloc (.cells #[.int .i64 f.Kind, .int .i64 f.From, .int .i64 f.To, .int .i64 f.Seq, .int .i64 f.Fragment, .bool f.More, .bool f.Retry, .int .i64 f.Duration, .slice A90 n91 c92] 25)).cell? ⟨w89.heap.size, 3, none⟩ = some (.int .i64 f.Seq) := by rw [← hV103]; exact X113.out.cell 3
      have ck114_4 : (w89.alloc (.cells #[.int .i64 f.Kind, .int .i64 f.From, .int .i64 f.To, .int .i64 f.Seq, .int .i64 f.Fragment, .bool f.More, .bool f.Retry, .int .i64 f.Duration, .slice A90 n91 c92] 25)).cell? ⟨w89.heap.size, 4, none⟩ = some (.int .i64 f.Fragment) := by rw [← hV103]; exact X113.out.cell 4
      have ck114_5 : (w89.alloc (.cells #[.int .i64 f.Kind, .int .i64 f.From, .int .i64 f.To, .int .i64 f.Seq, .int .i64 f.Fragment, .bool f.More, .bool f.Retry, .int .i64 f.Duration, .slice A90 n91 c92] 25)).cell? ⟨w89.heap.size, 5, none⟩ = some (.bool f.More) := by rw [← hV103]; exact X113.out.cell 5
      have ck114_6 : (w89.alloc (.cells #[.int .i64 f.Kind, .int .i64 f.From, .int .i64 f.To, .int .i64 f.Seq, .int .i64 f.Fragment, .bool f.More, .bool f.Retry, .int .i64 f.Duration, .slice A90 n91 c92] 25)).cell? ⟨w89.heap.size, 6, none⟩ = some (.bool f.Retry) := by rw [← hV103]; exact X113.out.cell 6
      have ck114_7 : (w89.alloc (.cells #[.int .i64 f.Kind, .int .i64 f.From, .int .i64 f.To, .int .i64 f.Seq, .int .i64 f.Fragment, .bool f.More, .bool f.Retry, .int .i64 f.Duration, .slice A90 n91 c92] 25)).cell? ⟨w89.heap.size, 7, none⟩ = some (.int .i64 f.Duration) := by rw [← hV103]; exact X113.out.cell 7
      have ck114_8 : (w89.alloc (.cells #[.int .i64 f.Kind, .int .i64 f.From, .int .i64 f.To, .int .i64 f.Seq, .int .i64 f.Fragment, .bool f.More, .bool f.Retry, .int .i64 f.Duration, .slice A90 n91 c92] 25)).cell? ⟨w89.heap.size, 8, none⟩ = some (.slice A90 n91 c92) := by rw [← hV103]; exact X113.out.cell 8
      go_wp2_with fail
      rw [← hV103]
      clear hV103 ck10_0 ck10_1 ck10_2 ck10_3 ck10_4 ck10_5 ck10_6 ck10_7 ck10_8 ck114_0 ck114_1 ck114_2 ck114_3 ck114_4 ck114_5 ck114_6 ck114_7 ck114_8
      (with_reducible refine (HX.out ▸ sn.implRm x0 A77 n78 c79 _ _ _ (sn.sen_rq F110.out.rd) (by have h1 := (sn.sen_rq F110.out.rd).len; have h2 := HL0.out; have h3 := HN0.out; omega) f k A90 n91 c92).mono ?_)
      rintro e w115 hp
      obtain ⟨A116, n117, c118, rfl, ho, hb⟩ := sn.nn_parts hp
      clear hp
      obtain ⟨fp119, ho2⟩ := sn.sen_oo ho
      clear ho
      have F120 := Lib.hid ho2
      clear ho2
      have B121 := Lib.hid (B105.out.trans (hb.mono B105.out.size))
      have Z122 := Lib.hid hb.size
      have F123 := Lib.hid (F107.out.below hb)
      have F124 := Lib.hid (F108.out.below hb)
      have F125 := Lib.hid (F109.out.below hb)
      have F126 := Lib.hid (F110.out.below hb)
      have F127 := Lib.hid (F111.out.below hb)
      have F128 := Lib.hid (F112.out.below hb)
      have F129 := Lib.hid (X113.out.below hb)
      clear hb B105 F107 F108 F109 F110 F111 F112 X113
      have ck10_0 : (w115).cell? ⟨w.heap.size, 0, none⟩ = some (.int .i64 f.Kind) := F128.out.cell 0
      have ck10_1 : (w115).cell? ⟨w.heap.size, 1, none⟩ = some (.int .i64 f.From) := F128.out.cell 1
      have ck10_2 : (w115).cell? ⟨w.heap.size, 2, none⟩ = some (.int .i64 f.To) := F128.out.cell 2
      have ck10_3 : (w115).cell? ⟨w.heap.size, 3, none⟩ = some (.int .i64 f.Seq) := F128.out.cell 3
      have ck10_4 : (w115).cell? ⟨w.heap.size, 4, none⟩ = some (.int .i64 f.Fragment) := F128.out.cell 4
      have ck10_5 : (w115).cell? ⟨w.heap.size, 5, none⟩ = some (.bool f.More) := F128.out.cell 5
      have ck10_6 : (w115).cell? ⟨w.heap.size, 6, none⟩ = some (.bool f.Retry) := F128.out.cell 6
      have ck10_7 : (w115).cell? ⟨w.heap.size, 7, none⟩ = some (.int .i64 f.Duration) := F128.out.cell 7
      have ck10_8 : (w115).cell? ⟨w.heap.size, 8, none⟩ = some (.slice Af nf cf) := F128.out.cell 8
      have ck114_0 : (w115).cell? ⟨w89.heap.size, 0, none⟩ = some (.int .i64 f.Kind) := F129.out.cell 0
      have ck114_1 : (w115).cell? ⟨w89.heap.size, 1, none⟩ = some (.int .i64 f.From) := F129.out.cell 1
      have ck114_2 : (w115).cell? ⟨w89.heap.size, 2, none⟩ = some (.int .i64 f.To) := F129.out.cell 2
      have ck114_3 : (w115).cell? ⟨w89.heap.size, 3, none⟩ = some (.int .i64 f.Seq) := F129.out.cell 3
      have ck114_4 : (w115).cell? ⟨w89.heap.size, 4, none⟩ = some (.int .i64 f.Fragment) := F129.out.cell 4
      have ck114_5 : (w115).cell? ⟨w89.heap.size, 5, none⟩ = some (.bool f.More) := F129.out.cell 5
      have ck114_6 : (w115).cell? ⟨w89.heap.size, 6, none⟩ = some (.bool f.Retry) := F129.out.cell 6
      have ck114_7 : (w115).cell? ⟨w89.heap.size, 7, none⟩ = some (.int .i64 f.Duration) := F129.out.cell 7
      have ck114_8 : (w115).cell? ⟨w89.heap.size, 8, none⟩ = some (.slice A90 n91 c92) := F129.out.cell 8
      go_wp2_with fail
      clear ck10_0 ck10_1 ck10_2 ck10_3 ck10_4 ck10_5 ck10_6 ck10_7 ck10_8 ck114_0 ck114_1 ck114_2 ck114_3 ck114_4 ck114_5 ck114_6 ck114_7 ck114_8
      (with_reducible refine (ux.eqSeenFrameS F120.out.rd F125.out.rd).mono ?_)
      rintro e w130 hp
      obtain ⟨rfl, hb⟩ := bx.b_parts rfl hp
      clear hp
      have B131 := Lib.hid (B121.out.trans (hb.mono B121.out.size))
      have Z132 := Lib.hid hb.size
      have F133 := Lib.hid (F123.out.below hb)
      have F134 := Lib.hid (F124.out.below hb)
      have F135 := Lib.hid (F125.out.below hb)
      have F136 := Lib.hid (F126.out.below hb)
      have F137 := Lib.hid (F127.out.below hb)
      have F138 := Lib.hid (F120.out.below hb)
      have F139 := Lib.hid (F128.out.below hb)
      have F140 := Lib.hid (F129.out.below hb)
      clear hb B121 F123 F124 F125 F126 F127 F120 F128 F129
      have ck10_0 : (w130).cell? ⟨w.heap.size, 0, none⟩ = some (.int .i64 f.Kind) := F139.out.cell 0
      have ck10_1 : (w130).cell? ⟨w.heap.size, 1, none⟩ = some (.int .i64 f.From) := F139.out.cell 1
      have ck10_2 : (w130).cell? ⟨w.heap.size, 2, none⟩ = some (.int .i64 f.To) := F139.out.cell 2
      have ck10_3 : (w130).cell? ⟨w.heap.size, 3, none⟩ = some (.int .i64 f.Seq) := F139.out.cell 3
      have ck10_4 : (w130).cell? ⟨w.heap.size, 4, none⟩ = some (.int .i64 f.Fragment) := F139.out.cell 4
      have ck10_5 : (w130).cell? ⟨w.heap.size, 5, none⟩ = some (.bool f.More) := F139.out.cell 5
      have ck10_6 : (w130).cell? ⟨w.heap.size, 6, none⟩ = some (.bool f.Retry) := F139.out.cell 6
      have ck10_7 : (w130).cell? ⟨w.heap.size, 7, none⟩ = some (.int .i64 f.Duration) := F139.out.cell 7
      have ck10_8 : (w130).cell? ⟨w.heap.size, 8, none⟩ = some (.slice Af nf cf) := F139.out.cell 8
      have ck114_0 : (w130).cell? ⟨w89.heap.size, 0, none⟩ = some (.int .i64 f.Kind) := F140.out.cell 0
      have ck114_1 : (w130).cell? ⟨w89.heap.size, 1, none⟩ = some (.int .i64 f.From) := F140.out.cell 1
      have ck114_2 : (w130).cell? ⟨w89.heap.size, 2, none⟩ = some (.int .i64 f.To) := F140.out.cell 2
      have ck114_3 : (w130).cell? ⟨w89.heap.size, 3, none⟩ = some (.int .i64 f.Seq) := F140.out.cell 3
      have ck114_4 : (w130).cell? ⟨w89.heap.size, 4, none⟩ = some (.int .i64 f.Fragment) := F140.out.cell 4
      have ck114_5 : (w130).cell? ⟨w89.heap.size, 5, none⟩ = some (.bool f.More) := F140.out.cell 5
      have ck114_6 : (w130).cell? ⟨w89.heap.size, 6, none⟩ = some (.bool f.Retry) := F140.out.cell 6
      have ck114_7 : (w130).cell? ⟨w89.heap.size, 7, none⟩ = some (.int .i64 f.Duration) := F140.out.cell 7
      have ck114_8 : (w130).cell? ⟨w89.heap.size, 8, none⟩ = some (.slice A90 n91 c92) := F140.out.cell 8
      go_wp2_with fail
      clear ck10_0 ck10_1 ck10_2 ck10_3 ck10_4 ck10_5 ck10_6 ck10_7 ck10_8 ck114_0 ck114_1 ck114_2 ck114_3 ck114_4 ck114_5 ck114_6 ck114_7 ck114_8
      (with_reducible refine (ux.toSeenFrameS F133.out S20.out).mono ?_)
      rintro e w141 hp
      obtain ⟨v146, fp145, rfl, ho, hb⟩ := hp.parts
      clear hp
      obtain ⟨A142, n143, c144, rfl⟩ := ux.rowSen_slo ho.1
      have F147 := Lib.hid ho
      clear ho
      have B148 := Lib.hid (B131.out.trans (hb.mono B131.out.size))
      have Z149 := Lib.hid hb.size
      have F150 := Lib.hid (F133.out.below hb)
      have F151 := Lib.hid (F134.out.below hb)
      have F152 := Lib.hid (F135.out.below hb)
      have F153 := Lib.hid (F136.out.below hb)
      have F154 := Lib.hid (F137.out.below hb)
      have F155 := Lib.hid (F138.out.below hb)
      have F156 := Lib.hid (F139.out.below hb)
      have F157 := Lib.hid (F140.out.below hb)
      clear hb B131 F133 F134 F135 F136 F137 F138 F139 F140
      have ck10_0 : (w141).cell? ⟨w.heap.size, 0, none⟩ = some (.int .i64 f.Kind) := F156.out.cell 0
      have ck10_1 : (w141).cell? ⟨w.heap.size, 1, none⟩ = some (.int .i64 f.From) := F156.out.cell 1
      have ck10_2 : (w141).cell? ⟨w.heap.size, 2, none⟩ = some (.int .i64 f.To) := F156.out.cell 2
      have ck10_3 : (w141).cell? ⟨w.heap.size, 3, none⟩ = some (.int .i64 f.Seq) := F156.out.cell 3
      have ck10_4 : (w141).cell? ⟨w.heap.size, 4, none⟩ = some (.int .i64 f.Fragment) := F156.out.cell 4
      have ck10_5 : (w141).cell? ⟨w.heap.size, 5, none⟩ = some (.bool f.More) := F156.out.cell 5
      have ck10_6 : (w141).cell? ⟨w.heap.size, 6, none⟩ = some (.bool f.Retry) := F156.out.cell 6
      have ck10_7 : (w141).cell? ⟨w.heap.size, 7, none⟩ = some (.int .i64 f.Duration) := F156.out.cell 7
      have ck10_8 : (w141).cell? ⟨w.heap.size, 8, none⟩ = some (.slice Af nf cf) := F156.out.cell 8
      have ck114_0 : (w141).cell? ⟨w89.heap.size, 0, none⟩ = some (.int .i64 f.Kind) := F157.out.cell 0
      have ck114_1 : (w141).cell? ⟨w89.heap.size, 1, none⟩ = some (.int .i64 f.From) := F157.out.cell 1
      have ck114_2 : (w141).cell? ⟨w89.heap.size, 2, none⟩ = some (.int .i64 f.To) := F157.out.cell 2
      have ck114_3 : (w141).cell? ⟨w89.heap.size, 3, none⟩ = some (.int .i64 f.Seq) := F157.out.cell 3
      have ck114_4 : (w141).cell? ⟨w89.heap.size, 4, none⟩ = some (.int .i64 f.Fragment) := F157.out.cell 4
      have ck114_5 : (w141).cell? ⟨w89.heap.size, 5, none⟩ = some (.bool f.More) := F157.out.cell 5
      have ck114_6 : (w141).cell? ⟨w89.heap.size, 6, none⟩ = some (.bool f.Retry) := F157.out.cell 6
      have ck114_7 : (w141).cell? ⟨w89.heap.size, 7, none⟩ = some (.int .i64 f.Duration) := F157.out.cell 7
      have ck114_8 : (w141).cell? ⟨w89.heap.size, 8, none⟩ = some (.slice A90 n91 c92) := F157.out.cell 8
      go_wp2_with fail
      clear ck10_0 ck10_1 ck10_2 ck10_3 ck10_4 ck10_5 ck10_6 ck10_7 ck10_8 ck114_0 ck114_1 ck114_2 ck114_3 ck114_4 ck114_5 ck114_6 ck114_7 ck114_8
      (with_reducible refine (ux.eqSeenFrameS F153.out.rd F147.out.rd).mono ?_)
      rintro e w158 hp
      obtain ⟨rfl, hb⟩ := bx.b_parts rfl hp
      clear hp
      have B159 := Lib.hid (B148.out.trans (hb.mono B148.out.size))
      have Z160 := Lib.hid hb.size
      have F161 := Lib.hid (F150.out.below hb)
      have F162 := Lib.hid (F151.out.below hb)
      have F163 := Lib.hid (F152.out.below hb)
      have F164 := Lib.hid (F153.out.below hb)
      have F165 := Lib.hid (F154.out.below hb)
      have F166 := Lib.hid (F155.out.below hb)
      have F167 := Lib.hid (F147.out.below hb)
      have F168 := Lib.hid (F156.out.below hb)
      have F169 := Lib.hid (F157.out.below hb)
      clear hb B148 F150 F151 F152 F153 F154 F155 F147 F156 F157
      clear F167
      have ck10_0 : (w158).cell? ⟨w.heap.size, 0, none⟩ = some (.int .i64 f.Kind) := F168.out.cell 0
      have ck10_1 : (w158).cell? ⟨w.heap.size, 1, none⟩ = some (.int .i64 f.From) := F168.out.cell 1
      have ck10_2 : (w158).cell? ⟨w.heap.size, 2, none⟩ = some (.int .i64 f.To) := F168.out.cell 2
      have ck10_3 : (w158).cell? ⟨w.heap.size, 3, none⟩ = some (.int .i64 f.Seq) := F168.out.cell 3
      have ck10_4 : (w158).cell? ⟨w.heap.size, 4, none⟩ = some (.int .i64 f.Fragment) := F168.out.cell 4
      have ck10_5 : (w158).cell? ⟨w.heap.size, 5, none⟩ = some (.bool f.More) := F168.out.cell 5
      have ck10_6 : (w158).cell? ⟨w.heap.size, 6, none⟩ = some (.bool f.Retry) := F168.out.cell 6
      have ck10_7 : (w158).cell? ⟨w.heap.size, 7, none⟩ = some (.int .i64 f.Duration) := F168.out.cell 7
      have ck10_8 : (w158).cell? ⟨w.heap.size, 8, none⟩ = some (.slice Af nf cf) := F168.out.cell 8
      have ck114_0 : (w158).cell? ⟨w89.heap.size, 0, none⟩ = some (.int .i64 f.Kind) := F169.out.cell 0
      have ck114_1 : (w158).cell? ⟨w89.heap.size, 1, none⟩ = some (.int .i64 f.From) := F169.out.cell 1
      have ck114_2 : (w158).cell? ⟨w89.heap.size, 2, none⟩ = some (.int .i64 f.To) := F169.out.cell 2
      have ck114_3 : (w158).cell? ⟨w89.heap.size, 3, none⟩ = some (.int .i64 f.Seq) := F169.out.cell 3
      have ck114_4 : (w158).cell? ⟨w89.heap.size, 4, none⟩ = some (.int .i64 f.Fragment) := F169.out.cell 4
      have ck114_5 : (w158).cell? ⟨w89.heap.size, 5, none⟩ = some (.bool f.More) := F169.out.cell 5
      have ck114_6 : (w158).cell? ⟨w89.heap.size, 6, none⟩ = some (.bool f.Retry) := F169.out.cell 6
      have ck114_7 : (w158).cell? ⟨w89.heap.size, 7, none⟩ = some (.int .i64 f.Duration) := F169.out.cell 7
      have ck114_8 : (w158).cell? ⟨w89.heap.size, 8, none⟩ = some (.slice A90 n91 c92) := F169.out.cell 8
      go_wp2_with fail
      clear ck10_0 ck10_1 ck10_2 ck10_3 ck10_4 ck10_5 ck10_6 ck10_7 ck10_8 ck114_0 ck114_1 ck114_2 ck114_3 ck114_4 ck114_5 ck114_6 ck114_7 ck114_8
      have hb : Below w158.heap.size w158 w158.drew := own.below_drew (Below.refl _ _)
      have B170 := Lib.hid (B159.out.trans (hb.mono B159.out.size))
      have Z171 := Lib.hid hb.size
      have F172 := Lib.hid (F161.out.below hb)
      have F173 := Lib.hid (F162.out.below hb)
      have F174 := Lib.hid (F163.out.below hb)
      have F175 := Lib.hid (F164.out.below hb)
      have F176 := Lib.hid (F165.out.below hb)
      have F177 := Lib.hid (F166.out.below hb)
      have F178 := Lib.hid (F168.out.below hb)
      have F179 := Lib.hid (F169.out.below hb)
      clear hb B159 F161 F162 F163 F164 F165 F166 F168 F169
      have cak114_0 : (w158.drew).cell? ⟨w89.heap.size, 0, none⟩ = some (.int .i64 f.Kind) := F179.out.cell 0
      have cak114_1 : (w158.drew).cell? ⟨w89.heap.size, 1, none⟩ = some (.int .i64 f.From) := F179.out.cell 1
      have cak114_2 : (w158.drew).cell? ⟨w89.heap.size, 2, none⟩ = some (.int .i64 f.To) := F179.out.cell 2
      have cak114_3 : (w158.drew).cell? ⟨w89.heap.size, 3, none⟩ = some (.int .i64 f.Seq) := F179.out.cell 3
      have cak114_4 : (w158.drew).cell? ⟨w89.heap.size, 4, none⟩ = some (.int .i64 f.Fragment) := F179.out.cell 4
      have cak114_5 : (w158.drew).cell? ⟨w89.heap.size, 5, none⟩ = some (.bool f.More) := F179.out.cell 5
      have cak114_6 : (w158.drew).cell? ⟨w89.heap.size, 6, none⟩ = some (.bool f.Retry) := F179.out.cell 6
      have cak114_7 : (w158.drew).cell? ⟨w89.heap.size, 7, none⟩ = some (.int .i64 f.Duration) := F179.out.cell 7
      have cak114_8 : (w158.drew).cell? ⟨w89.heap.size, 8, none⟩ = some (.slice A90 n91 c92) := F179.out.cell 8
      have cak10_0 : (w158.drew).cell? ⟨w.heap.size, 0, none⟩ = some (.int .i64 f.Kind) := F178.out.cell 0
      have cak10_1 : (w158.drew).cell? ⟨w.heap.size, 1, none⟩ = some (.int .i64 f.From) := F178.out.cell 1
      have cak10_2 : (w158.drew).cell? ⟨w.heap.size, 2, none⟩ = some (.int .i64 f.To) := F178.out.cell 2
      have cak10_3 : (w158.drew).cell? ⟨w.heap.size, 3, none⟩ = some (.int .i64 f.Seq) := F178.out.cell 3
      have cak10_4 : (w158.drew).cell? ⟨w.heap.size, 4, none⟩ = some (.int .i64 f.Fragment) := F178.out.cell 4
      have cak10_5 : (w158.drew).cell? ⟨w.heap.size, 5, none⟩ = some (.bool f.More) := F178.out.cell 5
      have cak10_6 : (w158.drew).cell? ⟨w.heap.size, 6, none⟩ = some (.bool f.Retry) := F178.out.cell 6
      have cak10_7 : (w158.drew).cell? ⟨w.heap.size, 7, none⟩ = some (.int .i64 f.Duration) := F178.out.cell 7
      have cak10_8 : (w158.drew).cell? ⟨w.heap.size, 8, none⟩ = some (.slice Af nf cf) := F178.out.cell 8
      go_region_held3 (fun w' => w'.cell? ⟨w89.heap.size, 0, none⟩ = some (.int .i64 f.Kind) ∧ w'.cell? ⟨w89.heap.size, 1, none⟩ = some (.int .i64 f.From) ∧ w'.cell? ⟨w89.heap.size, 2, none⟩ = some (.int .i64 f.To) ∧ w'.cell? ⟨w89.heap.size, 3, none⟩ = some (.int .i64 f.Seq) ∧ w'.cell? ⟨w89.heap.size, 4, none⟩ = some (.int .i64 f.Fragment) ∧ w'.cell? ⟨w89.heap.size, 5, none⟩ = some (.bool f.More) ∧ w'.cell? ⟨w89.heap.size, 6, none⟩ = some (.bool f.Retry) ∧ w'.cell? ⟨w89.heap.size, 7, none⟩ = some (.int .i64 f.Duration) ∧ w'.cell? ⟨w89.heap.size, 8, none⟩ = some (.slice A90 n91 c92) ∧ w'.cell? ⟨w.heap.size, 0, none⟩ = some (.int .i64 f.Kind) ∧ w'.cell? ⟨w.heap.size, 1, none⟩ = some (.int .i64 f.From) ∧ w'.cell? ⟨w.heap.size, 2, none⟩ = some (.int .i64 f.To) ∧ w'.cell? ⟨w.heap.size, 3, none⟩ = some (.int .i64 f.Seq) ∧ w'.cell? ⟨w.heap.size, 4, none⟩ = some (.int .i64 f.Fragment) ∧ w'.cell? ⟨w.heap.size, 5, none⟩ = some (.bool f.More) ∧ w'.cell? ⟨w.heap.size, 6, none⟩ = some (.bool f.Retry) ∧ w'.cell? ⟨w.heap.size, 7, none⟩ = some (.int .i64 f.Duration) ∧ w'.cell? ⟨w.heap.size, 8, none⟩ = some (.slice Af nf cf)) (first | (with_reducible exact ⟨cak114_0, cak114_1, cak114_2, cak114_3, cak114_4, cak114_5, cak114_6, cak114_7, cak114_8, cak10_0, cak10_1, cak10_2, cak10_3, cak10_4, cak10_5, cak10_6, cak10_7, cak10_8⟩) | (with_reducible exact ⟨cbk114_0, cbk114_1, cbk114_2, cbk114_3, cbk114_4, cbk114_5, cbk114_6, cbk114_7, cbk114_8, cbk10_0, cbk10_1, cbk10_2, cbk10_3, cbk10_4, cbk10_5, cbk10_6, cbk10_7, cbk10_8⟩) | (with_reducible exact ⟨cdk114_0, cdk114_1, cdk114_2, cdk114_3, cdk114_4, cdk114_5, cdk114_6, cdk114_7, cdk114_8, cdk10_0, cdk10_1, cdk10_2, cdk10_3, cdk10_4, cdk10_5, cdk10_6, cdk10_7, cdk10_8⟩))
        (first
        | (go_at_call 37; refine (ux.toMacFrame F173.out S31.out).mono ?_; rintro e w180 hp; obtain ⟨v185, fp184, rfl, ho, hb⟩ := hp.parts; clear hp; obtain ⟨A181, n182, c183, f9, rfl, _, _, _⟩ := ux.fra_o ho; have F186 := Lib.hid ho; clear ho; have B187 := Lib.hid (B170.out.trans (hb.mono B170.out.size)); have Z188 := Lib.hid hb.size; have F189 := Lib.hid (F172.out.below hb); have F190 := Lib.hid (F173.out.below hb); have F191 := Lib.hid (F174.out.below hb); have F192 := Lib.hid (F175.out.below hb); have F193 := Lib.hid (F176.out.below hb); have F194 := Lib.hid (F177.out.below hb); have F195 := Lib.hid (F178.out.below hb); have F196 := Lib.hid (F179.out.below hb); clear hb B170 F172 F173 F174 F175 F176 F177 F178 F179; have cbk114_0 : (w180).cell? ⟨w89.heap.size, 0, none⟩ = some (.int .i64 f.Kind) := F196.out.cell 0; have cbk114_1 : (w180).cell? ⟨w89.heap.size, 1, none⟩ = some (.int .i64 f.From) := F196.out.cell 1; have cbk114_2 : (w180).cell? ⟨w89.heap.size, 2, none⟩ = some (.int .i64 f.To) := F196.out.cell 2; have cbk114_3 : (w180).cell? ⟨w89.heap.size, 3, none⟩ = some (.int .i64 f.Seq) := F196.out.cell 3; have cbk114_4 : (w180).cell? ⟨w89.heap.size, 4, none⟩ = some (.int .i64 f.Fragment) := F196.out.cell 4; have cbk114_5 : (w180).cell? ⟨w89.heap.size, 5, none⟩ = some (.bool f.More) := F196.out.cell 5; have cbk114_6 : (w180).cell? ⟨w89.heap.size, 6, none⟩ = some (.bool f.Retry) := F196.out.cell 6; have cbk114_7 : (w180).cell? ⟨w89.heap.size, 7, none⟩ = some (.int .i64 f.Duration) := F196.out.cell 7; have cbk114_8 : (w180).cell? ⟨w89.heap.size, 8, none⟩ = some (.slice A90 n91 c92) := F196.out.cell 8; have cbk10_0 : (w180).cell? ⟨w.heap.size, 0, none⟩ = some (.int .i64 f.Kind) := F195.out.cell 0; have cbk10_1 : (w180).cell? ⟨w.heap.size, 1, none⟩ = some (.int .i64 f.From) := F195.out.cell 1; have cbk10_2 : (w180).cell? ⟨w.heap.size, 2, none⟩ = some (.int .i64 f.To) := F195.out.cell 2; have cbk10_3 : (w180).cell? ⟨w.heap.size, 3, none⟩ = some (.int .i64 f.Seq) := F195.out.cell 3; have cbk10_4 : (w180).cell? ⟨w.heap.size, 4, none⟩ = some (.int .i64 f.Fragment) := F195.out.cell 4; have cbk10_5 : (w180).cell? ⟨w.heap.size, 5, none⟩ = some (.bool f.More) := F195.out.cell 5; have cbk10_6 : (w180).cell? ⟨w.heap.size, 6, none⟩ = some (.bool f.Retry) := F195.out.cell 6; have cbk10_7 : (w180).cell? ⟨w.heap.size, 7, none⟩ = some (.int .i64 f.Duration) := F195.out.cell 7; have cbk10_8 : (w180).cell? ⟨w.heap.size, 8, none⟩ = some (.slice Af nf cf) := F195.out.cell 8)
        | (go_at_call 38; refine (ux.eqMacFrame F193.out.rd F186.out.rd).mono ?_; rintro e w197 hp; obtain ⟨rfl, hb⟩ := bx.b_parts rfl hp; clear hp; have B198 := Lib.hid (B187.out.trans (hb.mono B187.out.size)); have Z199 := Lib.hid hb.size; have F200 := Lib.hid (F189.out.below hb); have F201 := Lib.hid (F190.out.below hb); have F202 := Lib.hid (F191.out.below hb); have F203 := Lib.hid (F192.out.below hb); have F204 := Lib.hid (F193.out.below hb); have F205 := Lib.hid (F194.out.below hb); have F206 := Lib.hid (F186.out.below hb); have F207 := Lib.hid (F195.out.below hb); have F208 := Lib.hid (F196.out.below hb); clear hb B187 F189 F190 F191 F192 F193 F194 F186 F195 F196; have cdk114_0 : (w197).cell? ⟨w89.heap.size, 0, none⟩ = some (.int .i64 f.Kind) := F208.out.cell 0; have cdk114_1 : (w197).cell? ⟨w89.heap.size, 1, none⟩ = some (.int .i64 f.From) := F208.out.cell 1; have cdk114_2 : (w197).cell? ⟨w89.heap.size, 2, none⟩ = some (.int .i64 f.To) := F208.out.cell 2; have cdk114_3 : (w197).cell? ⟨w89.heap.size, 3, none⟩ = some (.int .i64 f.Seq) := F208.out.cell 3; have cdk114_4 : (w197).cell? ⟨w89.heap.size, 4, none⟩ = some (.int .i64 f.Fragment) := F208.out.cell 4; have cdk114_5 : (w197).cell? ⟨w89.heap.size, 5, none⟩ = some (.bool f.More) := F208.out.cell 5; have cdk114_6 : (w197).cell? ⟨w89.heap.size, 6, none⟩ = some (.bool f.Retry) := F208.out.cell 6; have cdk114_7 : (w197).cell? ⟨w89.heap.size, 7, none⟩ = some (.int .i64 f.Duration) := F208.out.cell 7; have cdk114_8 : (w197).cell? ⟨w89.heap.size, 8, none⟩ = some (.slice A90 n91 c92) := F208.out.cell 8; have cdk10_0 : (w197).cell? ⟨w.heap.size, 0, none⟩ = some (.int .i64 f.Kind) := F207.out.cell 0; have cdk10_1 : (w197).cell? ⟨w.heap.size, 1, none⟩ = some (.int .i64 f.From) := F207.out.cell 1; have cdk10_2 : (w197).cell? ⟨w.heap.size, 2, none⟩ = some (.int .i64 f.To) := F207.out.cell 2; have cdk10_3 : (w197).cell? ⟨w.heap.size, 3, none⟩ = some (.int .i64 f.Seq) := F207.out.cell 3; have cdk10_4 : (w197).cell? ⟨w.heap.size, 4, none⟩ = some (.int .i64 f.Fragment) := F207.out.cell 4; have cdk10_5 : (w197).cell? ⟨w.heap.size, 5, none⟩ = some (.bool f.More) := F207.out.cell 5; have cdk10_6 : (w197).cell? ⟨w.heap.size, 6, none⟩ = some (.bool f.Retry) := F207.out.cell 6; have cdk10_7 : (w197).cell? ⟨w.heap.size, 7, none⟩ = some (.int .i64 f.Duration) := F207.out.cell 7; have cdk10_8 : (w197).cell? ⟨w.heap.size, 8, none⟩ = some (.slice Af nf cf) := F207.out.cell 8))
      clear cak114_0 cak114_1 cak114_2 cak114_3 cak114_4 cak114_5 cak114_6 cak114_7 cak114_8 cak10_0 cak10_1 cak10_2 cak10_3 cak10_4 cak10_5 cak10_6 cak10_7 cak10_8 cbk114_0 cbk114_1 cbk114_2 cbk114_3 cbk114_4 cbk114_5 cbk114_6 cbk114_7 cbk114_8 cbk10_0 cbk10_1 cbk10_2 cbk10_3 cbk10_4 cbk10_5 cbk10_6 cbk10_7 cbk10_8 cdk114_0 cdk114_1 cdk114_2 cdk114_3 cdk114_4 cdk114_5 cdk114_6 cdk114_7 cdk114_8 cdk10_0 cdk10_1 cdk10_2 cdk10_3 cdk10_4 cdk10_5 cdk10_6 cdk10_7 cdk10_8
      clear F206
      have ck10_0 : (w197).cell? ⟨w.heap.size, 0, none⟩ = some (.int .i64 f.Kind) := F207.out.cell 0
      have ck10_1 : (w197).cell? ⟨w.heap.size, 1, none⟩ = some (.int .i64 f.From) := F207.out.cell 1
      have ck10_2 : (w197).cell? ⟨w.heap.size, 2, none⟩ = some (.int .i64 f.To) := F207.out.cell 2
      have ck10_3 : (w197).cell? ⟨w.heap.size, 3, none⟩ = some (.int .i64 f.Seq) := F207.out.cell 3
      have ck10_4 : (w197).cell? ⟨w.heap.size, 4, none⟩ = some (.int .i64 f.Fragment) := F207.out.cell 4
      have ck10_5 : (w197).cell? ⟨w.heap.size, 5, none⟩ = some (.bool f.More) := F207.out.cell 5
      have ck10_6 : (w197).cell? ⟨w.heap.size, 6, none⟩ = some (.bool f.Retry) := F207.out.cell 6
      have ck10_7 : (w197).cell? ⟨w.heap.size, 7, none⟩ = some (.int .i64 f.Duration) := F207.out.cell 7
      have ck10_8 : (w197).cell? ⟨w.heap.size, 8, none⟩ = some (.slice Af nf cf) := F207.out.cell 8
      have ck114_0 : (w197).cell? ⟨w89.heap.size, 0, none⟩ = some (.int .i64 f.Kind) := F208.out.cell 0
      have ck114_1 : (w197).cell? ⟨w89.heap.size, 1, none⟩ = some (.int .i64 f.From) := F208.out.cell 1
      have ck114_2 : (w197).cell? ⟨w89.heap.size, 2, none⟩ = some (.int .i64 f.To) := F208.out.cell 2
      have ck114_3 : (w197).cell? ⟨w89.heap.size, 3, none⟩ = some (.int .i64 f.Seq) := F208.out.cell 3
      have ck114_4 : (w197).cell? ⟨w89.heap.size, 4, none⟩ = some (.int .i64 f.Fragment) := F208.out.cell 4
      have ck114_5 : (w197).cell? ⟨w89.heap.size, 5, none⟩ = some (.bool f.More) := F208.out.cell 5
      have ck114_6 : (w197).cell? ⟨w89.heap.size, 6, none⟩ = some (.bool f.Retry) := F208.out.cell 6
      have ck114_7 : (w197).cell? ⟨w89.heap.size, 7, none⟩ = some (.int .i64 f.Duration) := F208.out.cell 7
      have ck114_8 : (w197).cell? ⟨w89.heap.size, 8, none⟩ = some (.slice A90 n91 c92) := F208.out.cell 8
      go_wp2_with fail
      clear ck10_0 ck10_1 ck10_2 ck10_3 ck10_4 ck10_5 ck10_6 ck10_7 ck10_8 ck114_0 ck114_1 ck114_2 ck114_3 ck114_4 ck114_5 ck114_6 ck114_7 ck114_8
      (with_reducible refine (ux.markSeenFrameS 1 F203.out (by have h1 := sn.rowSen_bd x0; have h2 := (show (0:Int) ≤ 1 ∧ (1:Int) ≤ 4294967360 by omega); have h3 := S20.out; omega) S20.out).mono ?_)
      rintro e w209 hp
      obtain ⟨rfl, ho, hb⟩ := hp.parts
      clear hp
      obtain ⟨k1, hk9⟩ : ∃ k : Int, 1 + (ux.rowSen.tot x0 : Nat) = k := ⟨_, rfl⟩
      have Hk1 := Lib.hid hk9
      have Kk1 := Lib.hid (show 0 ≤ k1 ∧ k1 ≤ 1 + 4294967360 by have h1 := sn.rowSen_bd x0; have h2 := (show (0:Int) ≤ 1 ∧ (1:Int) ≤ 4294967360 by omega); have h3 := S20.out; omega)
      have ngk1 : ¬ k1 < 0 := by have := Kk1.out; omega
      (first | rw [hk9] | (change Code.wp _ _ _ _ _; rw [hk9]) | skip)
      clear hk9
      have F210 := Lib.hid ho
      clear ho
      have B211 := Lib.hid (B198.out.trans (ux.ks_bel hb (fun b hb => by have z0 := Z4.out; have z1 := Z6.out; have z2 := Z15.out; have z3 := Z26.out; have z4 := Z34.out; have z5 := Z46.out; have z6 := Z58.out; have z7 := Z70.out; have z8 := Z84.out; have z9 := Z97.out; have z10 := Z104.out; have z11 := Z106.out; have z12 := Z122.out; have z13 := Z132.out; have z14 := Z149.out; have z15 := Z160.out; have z16 := Z171.out; have z17 := Z188.out; have z18 := Z199.out; have zB := B198.out.size; have := F210.out.inn b hb; omega) B198.out.size))
      have Z212 := Lib.hid hb.size
      have F213 := Lib.hid (F200.out.ks hb (fun b h1 h2 h3 => by have z0 := Z4.out; have z1 := Z6.out; have z2 := Z15.out; have z3 := Z26.out; have z4 := Z34.out; have z5 := Z46.out; have z6 := Z58.out; have z7 := Z70.out; have z8 := Z84.out; have z9 := Z97.out; have z10 := Z104.out; have z11 := Z106.out; have z12 := Z122.out; have z13 := Z132.out; have z14 := Z149.out; have z15 := Z160.out; have z16 := Z171.out; have z17 := Z188.out; have z18 := Z199.out; have z19 := Z212.out; have q2 := F210.out.inn b h3; omega))
      have F214 := Lib.hid (F201.out.ks hb (fun b h1 h2 h3 => by have z0 := Z4.out; have z1 := Z6.out; have z2 := Z15.out; have z3 := Z26.out; have z4 := Z34.out; have z5 := Z46.out; have z6 := Z58.out; have z7 := Z70.out; have z8 := Z84.out; have z9 := Z97.out; have z10 := Z104.out; have z11 := Z106.out; have z12 := Z122.out; have z13 := Z132.out; have z14 := Z149.out; have z15 := Z160.out; have z16 := Z171.out; have z17 := Z188.out; have z18 := Z199.out; have z19 := Z212.out; have q2 := F210.out.inn b h3; omega))
      have F215 := Lib.hid (F202.out.ks hb (fun b h1 h2 => by have z0 := Z4.out; have z1 := Z6.out; have z2 := Z15.out; have z3 := Z26.out; have z4 := Z34.out; have z5 := Z46.out; have z6 := Z58.out; have z7 := Z70.out; have z8 := Z84.out; have z9 := Z97.out; have z10 := Z104.out; have z11 := Z106.out; have z12 := Z122.out; have z13 := Z132.out; have z14 := Z149.out; have z15 := Z160.out; have z16 := Z171.out; have z17 := Z188.out; have z18 := Z199.out; have z19 := Z212.out; have q1 := F202.out.inn b h1; have q2 := F210.out.inn b h2; omega))
      have F216 := Lib.hid (F204.out.ks hb (fun b h1 h2 => by have z0 := Z4.out; have z1 := Z6.out; have z2 := Z15.out; have z3 := Z26.out; have z4 := Z34.out; have z5 := Z46.out; have z6 := Z58.out; have z7 := Z70.out; have z8 := Z84.out; have z9 := Z97.out; have z10 := Z104.out; have z11 := Z106.out; have z12 := Z122.out; have z13 := Z132.out; have z14 := Z149.out; have z15 := Z160.out; have z16 := Z171.out; have z17 := Z188.out; have z18 := Z199.out; have z19 := Z212.out; have q1 := F204.out.inn b h1; have q2 := F210.out.inn b h2; omega))
      have F217 := Lib.hid (F205.out.ks hb (fun b h1 h2 => by have z0 := Z4.out; have z1 := Z6.out; have z2 := Z15.out; have z3 := Z26.out; have z4 := Z34.out; have z5 := Z46.out; have z6 := Z58.out; have z7 := Z70.out; have z8 := Z84.out; have z9 := Z97.out; have z10 := Z104.out; have z11 := Z106.out; have z12 := Z122.out; have z13 := Z132.out; have z14 := Z149.out; have z15 := Z160.out; have z16 := Z171.out; have z17 := Z188.out; have z18 := Z199.out; have z19 := Z212.out; have q1 := F205.out.inn b h1; have q2 := F210.out.inn b h2; omega))
      have F218 := Lib.hid (fr.bx_ks F207.out hb (fun h3 => by have z0 := Z4.out; have z1 := Z6.out; have z2 := Z15.out; have z3 := Z26.out; have z4 := Z34.out; have z5 := Z46.out; have z6 := Z58.out; have z7 := Z70.out; have z8 := Z84.out; have z9 := Z97.out; have z10 := Z104.out; have z11 := Z106.out; have z12 := Z122.out; have z13 := Z132.out; have z14 := Z149.out; have z15 := Z160.out; have z16 := Z171.out; have z17 := Z188.out; have z18 := Z199.out; have z19 := Z212.out; have q2 := F210.out.inn _ h3; omega))
      have F219 := Lib.hid (fr.bx_ks F208.out hb (fun h3 => by have z0 := Z4.out; have z1 := Z6.out; have z2 := Z15.out; have z3 := Z26.out; have z4 := Z34.out; have z5 := Z46.out; have z6 := Z58.out; have z7 := Z70.out; have z8 := Z84.out; have z9 := Z97.out; have z10 := Z104.out; have z11 := Z106.out; have z12 := Z122.out; have z13 := Z132.out; have z14 := Z149.out; have z15 := Z160.out; have z16 := Z171.out; have z17 := Z188.out; have z18 := Z199.out; have z19 := Z212.out; have q2 := F210.out.inn _ h3; omega))
      clear hb B198 F200 F201 F202 F204 F205 F207 F208
      clear F203
      clear F210
      have ck10_0 : (w209).cell? ⟨w.heap.size, 0, none⟩ = some (.int .i64 f.Kind) := F218.out.cell 0
      have ck10_1 : (w209).cell? ⟨w.heap.size, 1, none⟩ = some (.int .i64 f.From) := F218.out.cell 1
      have ck10_2 : (w209).cell? ⟨w.heap.size, 2, none⟩ = some (.int .i64 f.To) := F218.out.cell 2
      have ck10_3 : (w209).cell? ⟨w.heap.size, 3, none⟩ = some (.int .i64 f.Seq) := F218.out.cell 3
      have ck10_4 : (w209).cell? ⟨w.heap.size, 4, none⟩ = some (.int .i64 f.Fragment) := F218.out.cell 4
      have ck10_5 : (w209).cell? ⟨w.heap.size, 5, none⟩ = some (.bool f.More) := F218.out.cell 5
      have ck10_6 : (w209).cell? ⟨w.heap.size, 6, none⟩ = some (.bool f.Retry) := F218.out.cell 6
      have ck10_7 : (w209).cell? ⟨w.heap.size, 7, none⟩ = some (.int .i64 f.Duration) := F218.out.cell 7
      have ck10_8 : (w209).cell? ⟨w.heap.size, 8, none⟩ = some (.slice Af nf cf) := F218.out.cell 8
      have ck114_0 : (w209).cell? ⟨w89.heap.size, 0, none⟩ = some (.int .i64 f.Kind) := F219.out.cell 0
      have ck114_1 : (w209).cell? ⟨w89.heap.size, 1, none⟩ = some (.int .i64 f.From) := F219.out.cell 1
      have ck114_2 : (w209).cell? ⟨w89.heap.size, 2, none⟩ = some (.int .i64 f.To) := F219.out.cell 2
      have ck114_3 : (w209).cell? ⟨w89.heap.size, 3, none⟩ = some (.int .i64 f.Seq) := F219.out.cell 3
      have ck114_4 : (w209).cell? ⟨w89.heap.size, 4, none⟩ = some (.int .i64 f.Fragment) := F219.out.cell 4
      have ck114_5 : (w209).cell? ⟨w89.heap.size, 5, none⟩ = some (.bool f.More) := F219.out.cell 5
      have ck114_6 : (w209).cell? ⟨w89.heap.size, 6, none⟩ = some (.bool f.Retry) := F219.out.cell 6
      have ck114_7 : (w209).cell? ⟨w89.heap.size, 7, none⟩ = some (.int .i64 f.Duration) := F219.out.cell 7
      have ck114_8 : (w209).cell? ⟨w89.heap.size, 8, none⟩ = some (.slice A90 n91 c92) := F219.out.cell 8
      go_wp2_with fail
      clear ck10_0 ck10_1 ck10_2 ck10_3 ck10_4 ck10_5 ck10_6 ck10_7 ck10_8 ck114_0 ck114_1 ck114_2 ck114_3 ck114_4 ck114_5 ck114_6 ck114_7 ck114_8
      (with_reducible refine (ux.markMacFrame k1 F216.out (by have h1 := fr.fra_bd f; have h2 := Kk1.out; have h3 := S31.out; omega) S31.out).mono ?_)
      rintro e w220 hp
      obtain ⟨rfl, ho, hb⟩ := hp.parts
      clear hp
      obtain ⟨k2, hk9⟩ : ∃ k : Int, k1 + (ux.fra_tv f : Nat) = k := ⟨_, rfl⟩
      have Hk2 := Lib.hid hk9
      have Kk2 := Lib.hid (show 0 ≤ k2 ∧ k2 ≤ k1 + 4294967360 by have h1 := fr.fra_bd f; have h2 := Kk1.out; have h3 := S31.out; omega)
      have ngk2 : ¬ k2 < 0 := by have := Kk2.out; omega
      (first | rw [hk9] | (change Code.wp _ _ _ _ _; rw [hk9]) | skip)
      clear hk9
      have F221 := Lib.hid ho
      clear ho
      have B222 := Lib.hid (B211.out.trans (ux.ks_bel hb (fun b hb => by have z0 := Z4.out; have z1 := Z6.out; have z2 := Z15.out; have z3 := Z26.out; have z4 := Z34.out; have z5 := Z46.out; have z6 := Z58.out; have z7 := Z70.out; have z8 := Z84.out; have z9 := Z97.out; have z10 := Z104.out; have z11 := Z106.out; have z12 := Z122.out; have z13 := Z132.out; have z14 := Z149.out; have z15 := Z160.out; have z16 := Z171.out; have z17 := Z188.out; have z18 := Z199.out; have z19 := Z212.out; have zB := B211.out.size; have := F221.out.inn b hb; omega) B211.out.size))
      have Z223 := Lib.hid hb.size
      have F224 := Lib.hid (F213.out.ks hb (fun b h1 h2 h3 => by have z0 := Z4.out; have z1 := Z6.out; have z2 := Z15.out; have z3 := Z26.out; have z4 := Z34.out; have z5 := Z46.out; have z6 := Z58.out; have z7 := Z70.out; have z8 := Z84.out; have z9 := Z97.out; have z10 := Z104.out; have z11 := Z106.out; have z12 := Z122.out; have z13 := Z132.out; have z14 := Z149.out; have z15 := Z160.out; have z16 := Z171.out; have z17 := Z188.out; have z18 := Z199.out; have z19 := Z212.out; have z20 := Z223.out; have q2 := F221.out.inn b h3; omega))
      have F225 := Lib.hid (F214.out.ks hb (fun b h1 h2 h3 => by have z0 := Z4.out; have z1 := Z6.out; have z2 := Z15.out; have z3 := Z26.out; have z4 := Z34.out; have z5 := Z46.out; have z6 := Z58.out; have z7 := Z70.out; have z8 := Z84.out; have z9 := Z97.out; have z10 := Z104.out; have z11 := Z106.out; have z12 := Z122.out; have z13 := Z132.out; have z14 := Z149.out; have z15 := Z160.out; have z16 := Z171.out; have z17 := Z188.out; have z18 := Z199.out; have z19 := Z212.out; have z20 := Z223.out; have q2 := F221.out.inn b h3; omega))
      have F226 := Lib.hid (F215.out.ks hb (fun b h1 h2 => by have z0 := Z4.out; have z1 := Z6.out; have z2 := Z15.out; have z3 := Z26.out; have z4 := Z34.out; have z5 := Z46.out; have z6 := Z58.out; have z7 := Z70.out; have z8 := Z84.out; have z9 := Z97.out; have z10 := Z104.out; have z11 := Z106.out; have z12 := Z122.out; have z13 := Z132.out; have z14 := Z149.out; have z15 := Z160.out; have z16 := Z171.out; have z17 := Z188.out; have z18 := Z199.out; have z19 := Z212.out; have z20 := Z223.out; have q1 := F215.out.inn b h1; have q2 := F221.out.inn b h2; omega))
      have F227 := Lib.hid (F217.out.ks hb (fun b h1 h2 => by have z0 := Z4.out; have z1 := Z6.out; have z2 := Z15.out; have z3 := Z26.out; have z4 := Z34.out; have z5 := Z46.out; have z6 := Z58.out; have z7 := Z70.out; have z8 := Z84.out; have z9 := Z97.out; have z10 := Z104.out; have z11 := Z106.out; have z12 := Z122.out; have z13 := Z132.out; have z14 := Z149.out; have z15 := Z160.out; have z16 := Z171.out; have z17 := Z188.out; have z18 := Z199.out; have z19 := Z212.out; have z20 := Z223.out; have q1 := F217.out.inn b h1; have q2 := F221.out.inn b h2; omega))
      have F228 := Lib.hid (fr.bx_ks F218.out hb (fun h3 => by have z0 := Z4.out; have z1 := Z6.out; have z2 := Z15.out; have z3 := Z26.out; have z4 := Z34.out; have z5 := Z46.out; have z6 := Z58.out; have z7 := Z70.out; have z8 := Z84.out; have z9 := Z97.out; have z10 := Z104.out; have z11 := Z106.out; have z12 := Z122.out; have z13 := Z132.out; have z14 := Z149.out; have z15 := Z160.out; have z16 := Z171.out; have z17 := Z188.out; have z18 := Z199.out; have z19 := Z212.out; have z20 := Z223.out; have q2 := F221.out.inn _ h3; omega))
      have F229 := Lib.hid (fr.bx_ks F219.out hb (fun h3 => by have z0 := Z4.out; have z1 := Z6.out; have z2 := Z15.out; have z3 := Z26.out; have z4 := Z34.out; have z5 := Z46.out; have z6 := Z58.out; have z7 := Z70.out; have z8 := Z84.out; have z9 := Z97.out; have z10 := Z104.out; have z11 := Z106.out; have z12 := Z122.out; have z13 := Z132.out; have z14 := Z149.out; have z15 := Z160.out; have z16 := Z171.out; have z17 := Z188.out; have z18 := Z199.out; have z19 := Z212.out; have z20 := Z223.out; have q2 := F221.out.inn _ h3; omega))
      clear hb B211 F213 F214 F215 F217 F218 F219
      clear F216
      clear F229
      clear F221
      have ck10_0 : (w220).cell? ⟨w.heap.size, 0, none⟩ = some (.int .i64 f.Kind) := F228.out.cell 0
      have ck10_1 : (w220).cell? ⟨w.heap.size, 1, none⟩ = some (.int .i64 f.From) := F228.out.cell 1
      have ck10_2 : (w220).cell? ⟨w.heap.size, 2, none⟩ = some (.int .i64 f.To) := F228.out.cell 2
      have ck10_3 : (w220).cell? ⟨w.heap.size, 3, none⟩ = some (.int .i64 f.Seq) := F228.out.cell 3
      have ck10_4 : (w220).cell? ⟨w.heap.size, 4, none⟩ = some (.int .i64 f.Fragment) := F228.out.cell 4
      have ck10_5 : (w220).cell? ⟨w.heap.size, 5, none⟩ = some (.bool f.More) := F228.out.cell 5
      have ck10_6 : (w220).cell? ⟨w.heap.size, 6, none⟩ = some (.bool f.Retry) := F228.out.cell 6
      have ck10_7 : (w220).cell? ⟨w.heap.size, 7, none⟩ = some (.int .i64 f.Duration) := F228.out.cell 7
      have ck10_8 : (w220).cell? ⟨w.heap.size, 8, none⟩ = some (.slice Af nf cf) := F228.out.cell 8
      go_wp2_with fail
      clear ck10_0 ck10_1 ck10_2 ck10_3 ck10_4 ck10_5 ck10_6 ck10_7 ck10_8
      (with_reducible refine (ux.eqSeenFrameS F227.out.rd F226.out.rd).mono ?_)
      rintro e w230 hp
      obtain ⟨rfl, hb⟩ := bx.b_parts rfl hp
      clear hp
      have B231 := Lib.hid (B222.out.trans (hb.mono B222.out.size))
      have Z232 := Lib.hid hb.size
      have F233 := Lib.hid (F224.out.below hb)
      have F234 := Lib.hid (F225.out.below hb)
      have F235 := Lib.hid (F226.out.below hb)
      have F236 := Lib.hid (F227.out.below hb)
      have F237 := Lib.hid (F228.out.below hb)
      clear hb B222 F224 F225 F226 F227 F228
      have ck10_0 : (w230).cell? ⟨w.heap.size, 0, none⟩ = some (.int .i64 f.Kind) := F237.out.cell 0
      have ck10_1 : (w230).cell? ⟨w.heap.size, 1, none⟩ = some (.int .i64 f.From) := F237.out.cell 1
      have ck10_2 : (w230).cell? ⟨w.heap.size, 2, none⟩ = some (.int .i64 f.To) := F237.out.cell 2
      have ck10_3 : (w230).cell? ⟨w.heap.size, 3, none⟩ = some (.int .i64 f.Seq) := F237.out.cell 3
      have ck10_4 : (w230).cell? ⟨w.heap.size, 4, none⟩ = some (.int .i64 f.Fragment) := F237.out.cell 4
      have ck10_5 : (w230).cell? ⟨w.heap.size, 5, none⟩ = some (.bool f.More) := F237.out.cell 5
      have ck10_6 : (w230).cell? ⟨w.heap.size, 6, none⟩ = some (.bool f.Retry) := F237.out.cell 6
      have ck10_7 : (w230).cell? ⟨w.heap.size, 7, none⟩ = some (.int .i64 f.Duration) := F237.out.cell 7
      have ck10_8 : (w230).cell? ⟨w.heap.size, 8, none⟩ = some (.slice Af nf cf) := F237.out.cell 8
      go_wp2_with fail
      clear ck10_0 ck10_1 ck10_2 ck10_3 ck10_4 ck10_5 ck10_6 ck10_7 ck10_8
      (with_reducible refine (ux.markSeenFrameS 1 F236.out (by have h1 := sn.rowSen_bd l9; have h2 := (show (0:Int) ≤ 1 ∧ (1:Int) ≤ 4294967360 by omega); have h3 := SL.out; omega) SL.out).mono ?_)
      rintro e w238 hp
      obtain ⟨rfl, ho, hb⟩ := hp.parts
      clear hp
      obtain ⟨m1, hk9⟩ : ∃ k : Int, 1 + (ux.rowSen.tot l9 : Nat) = k := ⟨_, rfl⟩
      have Hm1 := Lib.hid hk9
      have Km1 := Lib.hid (show 0 ≤ m1 ∧ m1 ≤ 1 + 4294967360 by have h1 := sn.rowSen_bd l9; have h2 := (show (0:Int) ≤ 1 ∧ (1:Int) ≤ 4294967360 by omega); have h3 := SL.out; omega)
      have ngm1 : ¬ m1 < 0 := by have := Km1.out; omega
      (first | rw [hk9] | (change Code.wp _ _ _ _ _; rw [hk9]) | skip)
      clear hk9
      have F239 := Lib.hid ho
      clear ho
      have B240 := Lib.hid (B231.out.trans (ux.ks_bel hb (fun b hb => by have z0 := Z4.out; have z1 := Z6.out; have z2 := Z15.out; have z3 := Z26.out; have z4 := Z34.out; have z5 := Z46.out; have z6 := Z58.out; have z7 := Z70.out; have z8 := Z84.out; have z9 := Z97.out; have z10 := Z104.out; have z11 := Z106.out; have z12 := Z122.out; have z13 := Z132.out; have z14 := Z149.out; have z15 := Z160.out; have z16 := Z171.out; have z17 := Z188.out; have z18 := Z199.out; have z19 := Z212.out; have z20 := Z223.out; have z21 := Z232.out; have zB := B231.out.size; have := F239.out.inn b hb; omega) B231.out.size))
      have Z241 := Lib.hid hb.size
      have F242 := Lib.hid (F233.out.ks hb (fun b h1 h2 h3 => by have z0 := Z4.out; have z1 := Z6.out; have z2 := Z15.out; have z3 := Z26.out; have z4 := Z34.out; have z5 := Z46.out; have z6 := Z58.out; have z7 := Z70.out; have z8 := Z84.out; have z9 := Z97.out; have z10 := Z104.out; have z11 := Z106.out; have z12 := Z122.out; have z13 := Z132.out; have z14 := Z149.out; have z15 := Z160.out; have z16 := Z171.out; have z17 := Z188.out; have z18 := Z199.out; have z19 := Z212.out; have z20 := Z223.out; have z21 := Z232.out; have z22 := Z241.out; have q2 := F239.out.inn b h3; omega))
      have F243 := Lib.hid (F234.out.ks hb (fun b h1 h2 h3 => by have z0 := Z4.out; have z1 := Z6.out; have z2 := Z15.out; have z3 := Z26.out; have z4 := Z34.out; have z5 := Z46.out; have z6 := Z58.out; have z7 := Z70.out; have z8 := Z84.out; have z9 := Z97.out; have z10 := Z104.out; have z11 := Z106.out; have z12 := Z122.out; have z13 := Z132.out; have z14 := Z149.out; have z15 := Z160.out; have z16 := Z171.out; have z17 := Z188.out; have z18 := Z199.out; have z19 := Z212.out; have z20 := Z223.out; have z21 := Z232.out; have z22 := Z241.out; have q2 := F239.out.inn b h3; omega))
      have F244 := Lib.hid (F235.out.ks hb (fun b h1 h2 => by have z0 := Z4.out; have z1 := Z6.out; have z2 := Z15.out; have z3 := Z26.out; have z4 := Z34.out; have z5 := Z46.out; have z6 := Z58.out; have z7 := Z70.out; have z8 := Z84.out; have z9 := Z97.out; have z10 := Z104.out; have z11 := Z106.out; have z12 := Z122.out; have z13 := Z132.out; have z14 := Z149.out; have z15 := Z160.out; have z16 := Z171.out; have z17 := Z188.out; have z18 := Z199.out; have z19 := Z212.out; have z20 := Z223.out; have z21 := Z232.out; have z22 := Z241.out; have q1 := F235.out.inn b h1; have q2 := F239.out.inn b h2; omega))
      have F245 := Lib.hid (fr.bx_ks F237.out hb (fun h3 => by have z0 := Z4.out; have z1 := Z6.out; have z2 := Z15.out; have z3 := Z26.out; have z4 := Z34.out; have z5 := Z46.out; have z6 := Z58.out; have z7 := Z70.out; have z8 := Z84.out; have z9 := Z97.out; have z10 := Z104.out; have z11 := Z106.out; have z12 := Z122.out; have z13 := Z132.out; have z14 := Z149.out; have z15 := Z160.out; have z16 := Z171.out; have z17 := Z188.out; have z18 := Z199.out; have z19 := Z212.out; have z20 := Z223.out; have z21 := Z232.out; have z22 := Z241.out; have q2 := F239.out.inn _ h3; omega))
      clear hb B231 F233 F234 F235 F237
      clear F236
      have ck10_0 : (w238).cell? ⟨w.heap.size, 0, none⟩ = some (.int .i64 f.Kind) := F245.out.cell 0
      have ck10_1 : (w238).cell? ⟨w.heap.size, 1, none⟩ = some (.int .i64 f.From) := F245.out.cell 1
      have ck10_2 : (w238).cell? ⟨w.heap.size, 2, none⟩ = some (.int .i64 f.To) := F245.out.cell 2
      have ck10_3 : (w238).cell? ⟨w.heap.size, 3, none⟩ = some (.int .i64 f.Seq) := F245.out.cell 3
      have ck10_4 : (w238).cell? ⟨w.heap.size, 4, none⟩ = some (.int .i64 f.Fragment) := F245.out.cell 4
      have ck10_5 : (w238).cell? ⟨w.heap.size, 5, none⟩ = some (.bool f.More) := F245.out.cell 5
      have ck10_6 : (w238).cell? ⟨w.heap.size, 6, none⟩ = some (.bool f.Retry) := F245.out.cell 6
      have ck10_7 : (w238).cell? ⟨w.heap.size, 7, none⟩ = some (.int .i64 f.Duration) := F245.out.cell 7
      have ck10_8 : (w238).cell? ⟨w.heap.size, 8, none⟩ = some (.slice Af nf cf) := F245.out.cell 8
      go_wp2_with fail
      clear ck10_0 ck10_1 ck10_2 ck10_3 ck10_4 ck10_5 ck10_6 ck10_7 ck10_8
      (with_reducible refine (ux.heldSeenFrameS 1 F239.out.rd (by have h1 := sn.rowSen_bd l9; have h2 := (show (0:Int) ≤ 1 ∧ (1:Int) ≤ 4294967360 by omega); have h3 := SL.out; omega) SL.out).mono ?_)
      rintro e w246 hp
      obtain ⟨rfl, hb⟩ := bx.n_parts Hm1.out hp
      clear hp
      have B247 := Lib.hid (B240.out.trans (hb.mono B240.out.size))
      have Z248 := Lib.hid hb.size
      have F249 := Lib.hid (F242.out.below hb)
      have F250 := Lib.hid (F243.out.below hb)
      have F251 := Lib.hid (F244.out.below hb)
      have F252 := Lib.hid (F239.out.below hb)
      have F253 := Lib.hid (F245.out.below hb)
      clear hb B240 F242 F243 F244 F239 F245
      have ck10_0 : (w246).cell? ⟨w.heap.size, 0, none⟩ = some (.int .i64 f.Kind) := F253.out.cell 0
      have ck10_1 : (w246).cell? ⟨w.heap.size, 1, none⟩ = some (.int .i64 f.From) := F253.out.cell 1
      have ck10_2 : (w246).cell? ⟨w.heap.size, 2, none⟩ = some (.int .i64 f.To) := F253.out.cell 2
      have ck10_3 : (w246).cell? ⟨w.heap.size, 3, none⟩ = some (.int .i64 f.Seq) := F253.out.cell 3
      have ck10_4 : (w246).cell? ⟨w.heap.size, 4, none⟩ = some (.int .i64 f.Fragment) := F253.out.cell 4
      have ck10_5 : (w246).cell? ⟨w.heap.size, 5, none⟩ = some (.bool f.More) := F253.out.cell 5
      have ck10_6 : (w246).cell? ⟨w.heap.size, 6, none⟩ = some (.bool f.Retry) := F253.out.cell 6
      have ck10_7 : (w246).cell? ⟨w.heap.size, 7, none⟩ = some (.int .i64 f.Duration) := F253.out.cell 7
      have ck10_8 : (w246).cell? ⟨w.heap.size, 8, none⟩ = some (.slice Af nf cf) := F253.out.cell 8
      go_wp2_with fail
      clear ck10_0 ck10_1 ck10_2 ck10_3 ck10_4 ck10_5 ck10_6 ck10_7 ck10_8
      have hb : Below w246.heap.size w246 w246.drew := own.below_drew (Below.refl _ _)
      have B254 := Lib.hid (B247.out.trans (hb.mono B247.out.size))
      have Z255 := Lib.hid hb.size
      have F256 := Lib.hid (F249.out.below hb)
      have F257 := Lib.hid (F250.out.below hb)
      have F258 := Lib.hid (F251.out.below hb)
      have F259 := Lib.hid (F252.out.below hb)
      have F260 := Lib.hid (F253.out.below hb)
      clear hb B247 F249 F250 F251 F252 F253
      have cak10_0 : (w246.drew).cell? ⟨w.heap.size, 0, none⟩ = some (.int .i64 f.Kind) := F260.out.cell 0
      have cak10_1 : (w246.drew).cell? ⟨w.heap.size, 1, none⟩ = some (.int .i64 f.From) := F260.out.cell 1
      have cak10_2 : (w246.drew).cell? ⟨w.heap.size, 2, none⟩ = some (.int .i64 f.To) := F260.out.cell 2
      have cak10_3 : (w246.drew).cell? ⟨w.heap.size, 3, none⟩ = some (.int .i64 f.Seq) := F260.out.cell 3
      have cak10_4 : (w246.drew).cell? ⟨w.heap.size, 4, none⟩ = some (.int .i64 f.Fragment) := F260.out.cell 4
      have cak10_5 : (w246.drew).cell? ⟨w.heap.size, 5, none⟩ = some (.bool f.More) := F260.out.cell 5
      have cak10_6 : (w246.drew).cell? ⟨w.heap.size, 6, none⟩ = some (.bool f.Retry) := F260.out.cell 6
      have cak10_7 : (w246.drew).cell? ⟨w.heap.size, 7, none⟩ = some (.int .i64 f.Duration) := F260.out.cell 7
      have cak10_8 : (w246.drew).cell? ⟨w.heap.size, 8, none⟩ = some (.slice Af nf cf) := F260.out.cell 8
      go_region_held3 (fun w' => w'.cell? ⟨w.heap.size, 0, none⟩ = some (.int .i64 f.Kind) ∧ w'.cell? ⟨w.heap.size, 1, none⟩ = some (.int .i64 f.From) ∧ w'.cell? ⟨w.heap.size, 2, none⟩ = some (.int .i64 f.To) ∧ w'.cell? ⟨w.heap.size, 3, none⟩ = some (.int .i64 f.Seq) ∧ w'.cell? ⟨w.heap.size, 4, none⟩ = some (.int .i64 f.Fragment) ∧ w'.cell? ⟨w.heap.size, 5, none⟩ = some (.bool f.More) ∧ w'.cell? ⟨w.heap.size, 6, none⟩ = some (.bool f.Retry) ∧ w'.cell? ⟨w.heap.size, 7, none⟩ = some (.int .i64 f.Duration) ∧ w'.cell? ⟨w.heap.size, 8, none⟩ = some (.slice Af nf cf)) (first | (with_reducible exact ⟨cak10_0, cak10_1, cak10_2, cak10_3, cak10_4, cak10_5, cak10_6, cak10_7, cak10_8⟩) | (with_reducible exact ⟨cbk10_0, cbk10_1, cbk10_2, cbk10_3, cbk10_4, cbk10_5, cbk10_6, cbk10_7, cbk10_8⟩) | (with_reducible exact ⟨cdk10_0, cdk10_1, cdk10_2, cdk10_3, cdk10_4, cdk10_5, cdk10_6, cdk10_7, cdk10_8⟩) | (with_reducible exact ⟨cek10_0, cek10_1, cek10_2, cek10_3, cek10_4, cek10_5, cek10_6, cek10_7, cek10_8⟩))
        (first
        | (go_at_call 34; (with_reducible refine (ux.toSeenFrameS F256.out S20.out).mono ?_); rintro e w261 hp; obtain ⟨v266, fp265, rfl, ho, hb⟩ := hp.parts; clear hp; obtain ⟨A262, n263, c264, rfl⟩ := ux.rowSen_slo ho.1; have F267 := Lib.hid ho; clear ho; have B268 := Lib.hid (B254.out.trans (hb.mono B254.out.size)); have Z269 := Lib.hid hb.size; have F270 := Lib.hid (F256.out.below hb); have F271 := Lib.hid (F257.out.below hb); have F272 := Lib.hid (F258.out.below hb); have F273 := Lib.hid (F259.out.below hb); have F274 := Lib.hid (F260.out.below hb); clear hb B254 F256 F257 F258 F259 F260; have cbk10_0 : (w261).cell? ⟨w.heap.size, 0, none⟩ = some (.int .i64 f.Kind) := F274.out.cell 0; have cbk10_1 : (w261).cell? ⟨w.heap.size, 1, none⟩ = some (.int .i64 f.From) := F274.out.cell 1; have cbk10_2 : (w261).cell? ⟨w.heap.size, 2, none⟩ = some (.int .i64 f.To) := F274.out.cell 2; have cbk10_3 : (w261).cell? ⟨w.heap.size, 3, none⟩ = some (.int .i64 f.Seq) := F274.out.cell 3; have cbk10_4 : (w261).cell? ⟨w.heap.size, 4, none⟩ = some (.int .i64 f.Fragment) := F274.out.cell 4; have cbk10_5 : (w261).cell? ⟨w.heap.size, 5, none⟩ = some (.bool f.More) := F274.out.cell 5; have cbk10_6 : (w261).cell? ⟨w.heap.size, 6, none⟩ = some (.bool f.Retry) := F274.out.cell 6; have cbk10_7 : (w261).cell? ⟨w.heap.size, 7, none⟩ = some (.int .i64 f.Duration) := F274.out.cell 7; have cbk10_8 : (w261).cell? ⟨w.heap.size, 8, none⟩ = some (.slice Af nf cf) := F274.out.cell 8)
        | (go_at_call 37; (with_reducible refine (ux.toMacFrame F271.out S31.out).mono ?_); rintro e w275 hp; obtain ⟨v280, fp279, rfl, ho, hb⟩ := hp.parts; clear hp; obtain ⟨A276, n277, c278, f9, rfl, _, _, _⟩ := ux.fra_o ho; have F281 := Lib.hid ho; clear ho; have B282 := Lib.hid (B268.out.trans (hb.mono B268.out.size)); have Z283 := Lib.hid hb.size; have F284 := Lib.hid (F270.out.below hb); have F285 := Lib.hid (F271.out.below hb); have F286 := Lib.hid (F272.out.below hb); have F287 := Lib.hid (F273.out.below hb); have F288 := Lib.hid (F267.out.below hb); have F289 := Lib.hid (F274.out.below hb); clear hb B268 F270 F271 F272 F273 F267 F274; have cdk10_0 : (w275).cell? ⟨w.heap.size, 0, none⟩ = some (.int .i64 f.Kind) := F289.out.cell 0; have cdk10_1 : (w275).cell? ⟨w.heap.size, 1, none⟩ = some (.int .i64 f.From) := F289.out.cell 1; have cdk10_2 : (w275).cell? ⟨w.heap.size, 2, none⟩ = some (.int .i64 f.To) := F289.out.cell 2; have cdk10_3 : (w275).cell? ⟨w.heap.size, 3, none⟩ = some (.int .i64 f.Seq) := F289.out.cell 3; have cdk10_4 : (w275).cell? ⟨w.heap.size, 4, none⟩ = some (.int .i64 f.Fragment) := F289.out.cell 4; have cdk10_5 : (w275).cell? ⟨w.heap.size, 5, none⟩ = some (.bool f.More) := F289.out.cell 5; have cdk10_6 : (w275).cell? ⟨w.heap.size, 6, none⟩ = some (.bool f.Retry) := F289.out.cell 6; have cdk10_7 : (w275).cell? ⟨w.heap.size, 7, none⟩ = some (.int .i64 f.Duration) := F289.out.cell 7; have cdk10_8 : (w275).cell? ⟨w.heap.size, 8, none⟩ = some (.slice Af nf cf) := F289.out.cell 8)
        | (go_at_call 40; (with_reducible refine (HX.out ▸ sn.implRm x0 A262 n263 c264 _ _ _ (sn.sen_rq F288.out.rd) (by have h1 := (sn.sen_rq F288.out.rd).len; have h2 := HL0.out; have h3 := HN0.out; omega) f k A276 n277 c278).mono ?_); rintro e w290 hp; obtain ⟨A291, n292, c293, rfl, ho, hb⟩ := sn.nn_parts hp; clear hp; obtain ⟨fp294, ho2⟩ := sn.sen_oo ho; clear ho; have F295 := Lib.hid ho2; clear ho2; have B296 := Lib.hid (B282.out.trans (hb.mono B282.out.size)); have Z297 := Lib.hid hb.size; have F298 := Lib.hid (F284.out.below hb); have F299 := Lib.hid (F285.out.below hb); have F300 := Lib.hid (F286.out.below hb); have F301 := Lib.hid (F287.out.below hb); have F302 := Lib.hid (F288.out.below hb); have F303 := Lib.hid (F281.out.below hb); have F304 := Lib.hid (F289.out.below hb); clear hb B282 F284 F285 F286 F287 F288 F281 F289; have cek10_0 : (w290).cell? ⟨w.heap.size, 0, none⟩ = some (.int .i64 f.Kind) := F304.out.cell 0; have cek10_1 : (w290).cell? ⟨w.heap.size, 1, none⟩ = some (.int .i64 f.From) := F304.out.cell 1; have cek10_2 : (w290).cell? ⟨w.heap.size, 2, none⟩ = some (.int .i64 f.To) := F304.out.cell 2; have cek10_3 : (w290).cell? ⟨w.heap.size, 3, none⟩ = some (.int .i64 f.Seq) := F304.out.cell 3; have cek10_4 : (w290).cell? ⟨w.heap.size, 4, none⟩ = some (.int .i64 f.Fragment) := F304.out.cell 4; have cek10_5 : (w290).cell? ⟨w.heap.size, 5, none⟩ = some (.bool f.More) := F304.out.cell 5; have cek10_6 : (w290).cell? ⟨w.heap.size, 6, none⟩ = some (.bool f.Retry) := F304.out.cell 6; have cek10_7 : (w290).cell? ⟨w.heap.size, 7, none⟩ = some (.int .i64 f.Duration) := F304.out.cell 7; have cek10_8 : (w290).cell? ⟨w.heap.size, 8, none⟩ = some (.slice Af nf cf) := F304.out.cell 8))
      clear cak10_0 cak10_1 cak10_2 cak10_3 cak10_4 cak10_5 cak10_6 cak10_7 cak10_8 cbk10_0 cbk10_1 cbk10_2 cbk10_3 cbk10_4 cbk10_5 cbk10_6 cbk10_7 cbk10_8 cdk10_0 cdk10_1 cdk10_2 cdk10_3 cdk10_4 cdk10_5 cdk10_6 cdk10_7 cdk10_8 cek10_0 cek10_1 cek10_2 cek10_3 cek10_4 cek10_5 cek10_6 cek10_7 cek10_8
      clear F302
      clear F303
      have ck10_0 : (w290).cell? ⟨w.heap.size, 0, none⟩ = some (.int .i64 f.Kind) := F304.out.cell 0
      have ck10_1 : (w290).cell? ⟨w.heap.size, 1, none⟩ = some (.int .i64 f.From) := F304.out.cell 1
      have ck10_2 : (w290).cell? ⟨w.heap.size, 2, none⟩ = some (.int .i64 f.To) := F304.out.cell 2
      have ck10_3 : (w290).cell? ⟨w.heap.size, 3, none⟩ = some (.int .i64 f.Seq) := F304.out.cell 3
      have ck10_4 : (w290).cell? ⟨w.heap.size, 4, none⟩ = some (.int .i64 f.Fragment) := F304.out.cell 4
      have ck10_5 : (w290).cell? ⟨w.heap.size, 5, none⟩ = some (.bool f.More) := F304.out.cell 5
      have ck10_6 : (w290).cell? ⟨w.heap.size, 6, none⟩ = some (.bool f.Retry) := F304.out.cell 6
      have ck10_7 : (w290).cell? ⟨w.heap.size, 7, none⟩ = some (.int .i64 f.Duration) := F304.out.cell 7
      have ck10_8 : (w290).cell? ⟨w.heap.size, 8, none⟩ = some (.slice Af nf cf) := F304.out.cell 8
      go_wp2_with fail
      clear ck10_0 ck10_1 ck10_2 ck10_3 ck10_4 ck10_5 ck10_6 ck10_7 ck10_8
      (with_reducible refine (ux.eqSeenFrameS F295.out.rd F300.out.rd).mono ?_)
      rintro e w305 hp
      obtain ⟨rfl, hb⟩ := bx.b_parts rfl hp
      clear hp
      have B306 := Lib.hid (B296.out.trans (hb.mono B296.out.size))
      have Z307 := Lib.hid hb.size
      have F308 := Lib.hid (F298.out.below hb)
      have F309 := Lib.hid (F299.out.below hb)
      have F310 := Lib.hid (F300.out.below hb)
      have F311 := Lib.hid (F301.out.below hb)
      have F312 := Lib.hid (F295.out.below hb)
      have F313 := Lib.hid (F304.out.below hb)
      clear hb B296 F298 F299 F300 F301 F295 F304
      clear F312
      clear F310
      have ck10_0 : (w305).cell? ⟨w.heap.size, 0, none⟩ = some (.int .i64 f.Kind) := F313.out.cell 0
      have ck10_1 : (w305).cell? ⟨w.heap.size, 1, none⟩ = some (.int .i64 f.From) := F313.out.cell 1
      have ck10_2 : (w305).cell? ⟨w.heap.size, 2, none⟩ = some (.int .i64 f.To) := F313.out.cell 2
      have ck10_3 : (w305).cell? ⟨w.heap.size, 3, none⟩ = some (.int .i64 f.Seq) := F313.out.cell 3
      have ck10_4 : (w305).cell? ⟨w.heap.size, 4, none⟩ = some (.int .i64 f.Fragment) := F313.out.cell 4
      have ck10_5 : (w305).cell? ⟨w.heap.size, 5, none⟩ = some (.bool f.More) := F313.out.cell 5
      have ck10_6 : (w305).cell? ⟨w.heap.size, 6, none⟩ = some (.bool f.Retry) := F313.out.cell 6
      have ck10_7 : (w305).cell? ⟨w.heap.size, 7, none⟩ = some (.int .i64 f.Duration) := F313.out.cell 7
      have ck10_8 : (w305).cell? ⟨w.heap.size, 8, none⟩ = some (.slice Af nf cf) := F313.out.cell 8
      go_wp2_with fail
      clear ck10_0 ck10_1 ck10_2 ck10_3 ck10_4 ck10_5 ck10_6 ck10_7 ck10_8
      (with_reducible refine (ux.heldSeenFrameS 1 F311.out.rd (by have h1 := sn.rowSen_bd l9; have h2 := (show (0:Int) ≤ 1 ∧ (1:Int) ≤ 4294967360 by omega); have h3 := SL.out; omega) SL.out).mono ?_)
      rintro e w314 hp
      obtain ⟨rfl, hb⟩ := bx.n_parts Hm1.out hp
      clear hp
      have B315 := Lib.hid (B306.out.trans (hb.mono B306.out.size))
      have Z316 := Lib.hid hb.size
      have F317 := Lib.hid (F308.out.below hb)
      have F318 := Lib.hid (F309.out.below hb)
      have F319 := Lib.hid (F311.out.below hb)
      have F320 := Lib.hid (F313.out.below hb)
      clear hb B306 F308 F309 F311 F313
      have ck10_0 : (w314).cell? ⟨w.heap.size, 0, none⟩ = some (.int .i64 f.Kind) := F320.out.cell 0
      have ck10_1 : (w314).cell? ⟨w.heap.size, 1, none⟩ = some (.int .i64 f.From) := F320.out.cell 1
      have ck10_2 : (w314).cell? ⟨w.heap.size, 2, none⟩ = some (.int .i64 f.To) := F320.out.cell 2
      have ck10_3 : (w314).cell? ⟨w.heap.size, 3, none⟩ = some (.int .i64 f.Seq) := F320.out.cell 3
      have ck10_4 : (w314).cell? ⟨w.heap.size, 4, none⟩ = some (.int .i64 f.Fragment) := F320.out.cell 4
      have ck10_5 : (w314).cell? ⟨w.heap.size, 5, none⟩ = some (.bool f.More) := F320.out.cell 5
      have ck10_6 : (w314).cell? ⟨w.heap.size, 6, none⟩ = some (.bool f.Retry) := F320.out.cell 6
      have ck10_7 : (w314).cell? ⟨w.heap.size, 7, none⟩ = some (.int .i64 f.Duration) := F320.out.cell 7
      have ck10_8 : (w314).cell? ⟨w.heap.size, 8, none⟩ = some (.slice Af nf cf) := F320.out.cell 8
      go_wp2_with fail
      clear ck10_0 ck10_1 ck10_2 ck10_3 ck10_4 ck10_5 ck10_6 ck10_7 ck10_8
      go_ret
      exact ⟨rfl, B315.out⟩
theorem walkA (x0 : List ux.Sen) (A0 : Option Addr) (n0 c0 : Nat) (f0 f1 f2 f3 f4 : Int) (f5 f6 : Bool) (f7 : Int) (Af : Option Addr) (nf cf : Nat) (zf : List Int) (k : Int)  (w : World) (h0 : mrw.Rq sn.senS w 0 w.heap.size A0 n0 c0 x0) (rowf : kit.IsRow .u8 w Af nf cf zf)  :
    Calls Try.prog 8 #[.slice A0 n0 c0, .agg #[.int .i64 f0, .int .i64 f1, .int .i64 f2, .int .i64 f3, .int .i64 f4, .bool f5, .bool f6, .int .i64 f7, .slice Af nf cf], .int .i64 k] w fun e w' => e = .returned (.bool true) ∧ Below w.heap.size w w' := by
  obtain ⟨y, hr⟩ := sl.Rd.of_row rowf
  exact walk x0 A0 n0 c0 ⟨f0, f1, f2, f3, f4, f5, f6, f7, y⟩ Af nf cf k w h0 hr
end Go.Proofs.Ytbkdbdhbmabgcaa.xExactRememberFrame
end

section
namespace Go.Proofs.Ytbkdbdhbmabgcaa.xExactAcceptFrame
open Go.RowKit sl harn bx
set_option linter.unusedVariables false
set_option maxRecDepth 100000 in
set_option maxHeartbeats 4000000 in
theorem walk (x0 : List ux.Sen) (A0 : Option Addr) (n0 c0 : Nat) (f : ux.Fra) (Af : Option Addr) (nf cf : Nat) (k : Int)  (w : World) (h0 : mrw.Rq sn.senS w 0 w.heap.size A0 n0 c0 x0) (hf : sl.Rd .u8 w 0 w.heap.size Af nf cf f.Body)  :
    Calls Try.prog 9 #[.slice A0 n0 c0, ux.fraV f (.slice Af nf cf), .int .i64 k] w fun e w' => e = .returned (.bool true) ∧ Below w.heap.size w w' := by
  have B1 := Lib.hid (Below.refl w.heap.size w)
  have F2 := Lib.hid (sn.sen_rr h0)
  have F3 := Lib.hid (fr.fra_of (f := f) hf)
  clear hf
  have HL0 := Lib.hid h0.len
  clear h0
  go_enter Try.func9, Try.ntmps9
  go_upto_region 1 with fail
  obtain ⟨we, hW⟩ : ∃ w0, w.alloc (.cells #[.int .i64 f.Kind, .int .i64 f.From, .int .i64 f.To, .int .i64 f.Seq, .int .i64 f.Fragment, .bool f.More, .bool f.Retry, .int .i64 f.Duration, .slice Af nf cf] 56) = w0 := ⟨_, rfl⟩
  rw [hW]
  have hb : Below w.heap.size w we := by rw [← hW]; exact (Below.refl _ _).alloc (by simp <;> omega) _
  have hz9 : w.heap.size + 1 ≤ we.heap.size := by rw [← hW]; simp
  have Z4 := Lib.hid hz9
  clear hz9
  have B5 := Lib.hid (B1.out.trans (hb.mono B1.out.size))
  have Z6 := Lib.hid hb.size
  have F7 := Lib.hid (F2.out.below hb)
  have F8 := Lib.hid (F3.out.below hb)
  clear hb B1 F2 F3
  have X9 := Lib.hid (show bx.Bx 56 we (w.heap.size) #[.int .i64 f.Kind, .int .i64 f.From, .int .i64 f.To, .int .i64 f.Seq, .int .i64 f.Fragment, .bool f.More, .bool f.Retry, .int .i64 f.Duration, .slice Af nf cf] by
      rw [← hW]
      have hh := bx.Bx.made 56 w #[.int .i64 f.Kind, .int .i64 f.From, .int .i64 f.To, .int .i64 f.Seq, .int .i64 f.Fragment, .bool f.More, .bool f.Retry, .int .i64 f.Duration, .slice Af nf cf]
      exact hh)
  clear hW
  have ck10_0 : (we).cell? ⟨w.heap.size, 0, none⟩ = some (.int .i64 f.Kind) := X9.out.cell 0
  have ck10_1 : (we).cell? ⟨w.heap.size, 1, none⟩ = some (.int .i64 f.From) := X9.out.cell 1
  have ck10_2 : (we).cell? ⟨w.heap.size, 2, none⟩ = some (.int .i64 f.To) := X9.out.cell 2
  have ck10_3 : (we).cell? ⟨w.heap.size, 3, none⟩ = some (.int .i64 f.Seq) := X9.out.cell 3
  have ck10_4 : (we).cell? ⟨w.heap.size, 4, none⟩ = some (.int .i64 f.Fragment) := X9.out.cell 4
  have ck10_5 : (we).cell? ⟨w.heap.size, 5, none⟩ = some (.bool f.More) := X9.out.cell 5
  have ck10_6 : (we).cell? ⟨w.heap.size, 6, none⟩ = some (.bool f.Retry) := X9.out.cell 6
  have ck10_7 : (we).cell? ⟨w.heap.size, 7, none⟩ = some (.int .i64 f.Duration) := X9.out.cell 7
  have ck10_8 : (we).cell? ⟨w.heap.size, 8, none⟩ = some (.slice Af nf cf) := X9.out.cell 8
  go_wp2_with fail
  clear ck10_0 ck10_1 ck10_2 ck10_3 ck10_4 ck10_5 ck10_6 ck10_7 ck10_8
  (with_reducible refine (ux.szSeenFrameS (1048576) (by omega) F7.out).mono ?_)
  rintro e w11 hp
  obtain ⟨r12, rfl, H13, hb⟩ := hp.parts
  have B14 := Lib.hid (B5.out.trans (hb.mono B5.out.size))
  have Z15 := Lib.hid hb.size
  have F16 := Lib.hid (F7.out.below hb)
  have F17 := Lib.hid (F8.out.below hb)
  have F18 := Lib.hid (X9.out.below hb)
  clear hb B5 F7 F8 X9
  rcases H13 with ⟨hr, _⟩ | ⟨hr, ht⟩
  · subst hr
    go_wp2_with fail
    go_ret
    exact ⟨rfl, B14.out⟩
  · have Q19 := Lib.hid (show 0 ≤ r12 ∧ r12 ≤ 1048576 by have := (by omega); omega)
    have S20 := Lib.hid (show ux.rowSen.sz x0 ≤ 67108864 by have := (by omega); omega)
    have S21 := Lib.hid (show ux.rowSen.sz x0 ≤ 1048576 by have := (by omega); omega)
    have ngr12 : ¬ r12 < 0 := by have := Q19.out; omega
    clear hr ht
    have ck10_0 : (w11).cell? ⟨w.heap.size, 0, none⟩ = some (.int .i64 f.Kind) := F18.out.cell 0
    have ck10_1 : (w11).cell? ⟨w.heap.size, 1, none⟩ = some (.int .i64 f.From) := F18.out.cell 1
    have ck10_2 : (w11).cell? ⟨w.heap.size, 2, none⟩ = some (.int .i64 f.To) := F18.out.cell 2
    have ck10_3 : (w11).cell? ⟨w.heap.size, 3, none⟩ = some (.int .i64 f.Seq) := F18.out.cell 3
    have ck10_4 : (w11).cell? ⟨w.heap.size, 4, none⟩ = some (.int .i64 f.Fragment) := F18.out.cell 4
    have ck10_5 : (w11).cell? ⟨w.heap.size, 5, none⟩ = some (.bool f.More) := F18.out.cell 5
    have ck10_6 : (w11).cell? ⟨w.heap.size, 6, none⟩ = some (.bool f.Retry) := F18.out.cell 6
    have ck10_7 : (w11).cell? ⟨w.heap.size, 7, none⟩ = some (.int .i64 f.Duration) := F18.out.cell 7
    have ck10_8 : (w11).cell? ⟨w.heap.size, 8, none⟩ = some (.slice Af nf cf) := F18.out.cell 8
    go_wp2_with fail
    clear ck10_0 ck10_1 ck10_2 ck10_3 ck10_4 ck10_5 ck10_6 ck10_7 ck10_8
    (with_reducible refine (ux.szMacFrame (r12) (Q19.out) F17.out).mono ?_)
    rintro e w22 hp
    obtain ⟨r23, rfl, H24, hb⟩ := hp.parts
    have B25 := Lib.hid (B14.out.trans (hb.mono B14.out.size))
    have Z26 := Lib.hid hb.size
    have F27 := Lib.hid (F16.out.below hb)
    have F28 := Lib.hid (F17.out.below hb)
    have F29 := Lib.hid (F18.out.below hb)
    clear hb B14 F16 F17 F18
    rcases H24 with ⟨hr, _⟩ | ⟨hr, ht⟩
    · subst hr
      go_wp2_with fail
      go_ret
      exact ⟨rfl, B25.out⟩
    · have Q30 := Lib.hid (show 0 ≤ r23 ∧ r23 ≤ 1048576 by have := (Q19.out); omega)
      have S31 := Lib.hid (show ux.fra.sz f ≤ 67108864 by have := (Q19.out); omega)
      have S32 := Lib.hid (show ux.fra.sz f ≤ 1048576 by have := (Q19.out); omega)
      have ngr23 : ¬ r23 < 0 := by have := Q30.out; omega
      clear hr ht
      have HN0 := Lib.hid (show n0 ≤ 1048576 by have h1 := S21.out; rw [sn.row_len] at h1; have h2 := HL0.out; omega)
      obtain ⟨⟨l9, d9⟩, hl9⟩ : ∃ p, sn.acc x0 f k = p := ⟨_, rfl⟩
      have HX := Lib.hid hl9
      have SL := Lib.hid (show ux.rowSen.sz l9 ≤ 67108864 by rw [sn.row_len]; have h1 := sn.acc_len x0 f k; rw [hl9] at h1; have h2 := HL0.out; have h3 := HN0.out; dsimp only at h1; omega)
      clear hl9
      have ck10_0 : (w22).cell? ⟨w.heap.size, 0, none⟩ = some (.int .i64 f.Kind) := F29.out.cell 0
      have ck10_1 : (w22).cell? ⟨w.heap.size, 1, none⟩ = some (.int .i64 f.From) := F29.out.cell 1
      have ck10_2 : (w22).cell? ⟨w.heap.size, 2, none⟩ = some (.int .i64 f.To) := F29.out.cell 2
      have ck10_3 : (w22).cell? ⟨w.heap.size, 3, none⟩ = some (.int .i64 f.Seq) := F29.out.cell 3
      have ck10_4 : (w22).cell? ⟨w.heap.size, 4, none⟩ = some (.int .i64 f.Fragment) := F29.out.cell 4
      have ck10_5 : (w22).cell? ⟨w.heap.size, 5, none⟩ = some (.bool f.More) := F29.out.cell 5
      have ck10_6 : (w22).cell? ⟨w.heap.size, 6, none⟩ = some (.bool f.Retry) := F29.out.cell 6
      have ck10_7 : (w22).cell? ⟨w.heap.size, 7, none⟩ = some (.int .i64 f.Duration) := F29.out.cell 7
      have ck10_8 : (w22).cell? ⟨w.heap.size, 8, none⟩ = some (.slice Af nf cf) := F29.out.cell 8
      go_wp2_with fail
      clear ck10_0 ck10_1 ck10_2 ck10_3 ck10_4 ck10_5 ck10_6 ck10_7 ck10_8
      have hb : Below w22.heap.size w22 w22.drew := own.below_drew (Below.refl _ _)
      have B33 := Lib.hid (B25.out.trans (hb.mono B25.out.size))
      have Z34 := Lib.hid hb.size
      have F35 := Lib.hid (F27.out.below hb)
      have F36 := Lib.hid (F28.out.below hb)
      have F37 := Lib.hid (F29.out.below hb)
      clear hb B25 F27 F28 F29
      have cak10_0 : (w22.drew).cell? ⟨w.heap.size, 0, none⟩ = some (.int .i64 f.Kind) := F37.out.cell 0
      have cak10_1 : (w22.drew).cell? ⟨w.heap.size, 1, none⟩ = some (.int .i64 f.From) := F37.out.cell 1
      have cak10_2 : (w22.drew).cell? ⟨w.heap.size, 2, none⟩ = some (.int .i64 f.To) := F37.out.cell 2
      have cak10_3 : (w22.drew).cell? ⟨w.heap.size, 3, none⟩ = some (.int .i64 f.Seq) := F37.out.cell 3
      have cak10_4 : (w22.drew).cell? ⟨w.heap.size, 4, none⟩ = some (.int .i64 f.Fragment) := F37.out.cell 4
      have cak10_5 : (w22.drew).cell? ⟨w.heap.size, 5, none⟩ = some (.bool f.More) := F37.out.cell 5
      have cak10_6 : (w22.drew).cell? ⟨w.heap.size, 6, none⟩ = some (.bool f.Retry) := F37.out.cell 6
      have cak10_7 : (w22.drew).cell? ⟨w.heap.size, 7, none⟩ = some (.int .i64 f.Duration) := F37.out.cell 7
      have cak10_8 : (w22.drew).cell? ⟨w.heap.size, 8, none⟩ = some (.slice Af nf cf) := F37.out.cell 8
      go_region_held3 (fun w' => w'.cell? ⟨w.heap.size, 0, none⟩ = some (.int .i64 f.Kind) ∧ w'.cell? ⟨w.heap.size, 1, none⟩ = some (.int .i64 f.From) ∧ w'.cell? ⟨w.heap.size, 2, none⟩ = some (.int .i64 f.To) ∧ w'.cell? ⟨w.heap.size, 3, none⟩ = some (.int .i64 f.Seq) ∧ w'.cell? ⟨w.heap.size, 4, none⟩ = some (.int .i64 f.Fragment) ∧ w'.cell? ⟨w.heap.size, 5, none⟩ = some (.bool f.More) ∧ w'.cell? ⟨w.heap.size, 6, none⟩ = some (.bool f.Retry) ∧ w'.cell? ⟨w.heap.size, 7, none⟩ = some (.int .i64 f.Duration) ∧ w'.cell? ⟨w.heap.size, 8, none⟩ = some (.slice Af nf cf)) (first | (with_reducible exact ⟨cak10_0, cak10_1, cak10_2, cak10_3, cak10_4, cak10_5, cak10_6, cak10_7, cak10_8⟩) | (with_reducible exact ⟨cbk10_0, cbk10_1, cbk10_2, cbk10_3, cbk10_4, cbk10_5, cbk10_6, cbk10_7, cbk10_8⟩) | (with_reducible exact ⟨cdk10_0, cdk10_1, cdk10_2, cdk10_3, cdk10_4, cdk10_5, cdk10_6, cdk10_7, cdk10_8⟩) | (with_reducible exact ⟨cek10_0, cek10_1, cek10_2, cek10_3, cek10_4, cek10_5, cek10_6, cek10_7, cek10_8⟩))
        (first
        | (go_at_call 34; (with_reducible refine (ux.toSeenFrameS F35.out S20.out).mono ?_); rintro e w38 hp; obtain ⟨v43, fp42, rfl, ho, hb⟩ := hp.parts; clear hp; obtain ⟨A39, n40, c41, rfl⟩ := ux.rowSen_slo ho.1; have F44 := Lib.hid ho; clear ho; have B45 := Lib.hid (B33.out.trans (hb.mono B33.out.size)); have Z46 := Lib.hid hb.size; have F47 := Lib.hid (F35.out.below hb); have F48 := Lib.hid (F36.out.below hb); have F49 := Lib.hid (F37.out.below hb); clear hb B33 F35 F36 F37; have cbk10_0 : (w38).cell? ⟨w.heap.size, 0, none⟩ = some (.int .i64 f.Kind) := F49.out.cell 0; have cbk10_1 : (w38).cell? ⟨w.heap.size, 1, none⟩ = some (.int .i64 f.From) := F49.out.cell 1; have cbk10_2 : (w38).cell? ⟨w.heap.size, 2, none⟩ = some (.int .i64 f.To) := F49.out.cell 2; have cbk10_3 : (w38).cell? ⟨w.heap.size, 3, none⟩ = some (.int .i64 f.Seq) := F49.out.cell 3; have cbk10_4 : (w38).cell? ⟨w.heap.size, 4, none⟩ = some (.int .i64 f.Fragment) := F49.out.cell 4; have cbk10_5 : (w38).cell? ⟨w.heap.size, 5, none⟩ = some (.bool f.More) := F49.out.cell 5; have cbk10_6 : (w38).cell? ⟨w.heap.size, 6, none⟩ = some (.bool f.Retry) := F49.out.cell 6; have cbk10_7 : (w38).cell? ⟨w.heap.size, 7, none⟩ = some (.int .i64 f.Duration) := F49.out.cell 7; have cbk10_8 : (w38).cell? ⟨w.heap.size, 8, none⟩ = some (.slice Af nf cf) := F49.out.cell 8)
        | (go_at_call 37; (with_reducible refine (ux.toMacFrame F48.out S31.out).mono ?_); rintro e w50 hp; obtain ⟨v55, fp54, rfl, ho, hb⟩ := hp.parts; clear hp; obtain ⟨A51, n52, c53, f9, rfl, _, _, _⟩ := ux.fra_o ho; have F56 := Lib.hid ho; clear ho; have B57 := Lib.hid (B45.out.trans (hb.mono B45.out.size)); have Z58 := Lib.hid hb.size; have F59 := Lib.hid (F47.out.below hb); have F60 := Lib.hid (F48.out.below hb); have F61 := Lib.hid (F44.out.below hb); have F62 := Lib.hid (F49.out.below hb); clear hb B45 F47 F48 F44 F49; have cdk10_0 : (w50).cell? ⟨w.heap.size, 0, none⟩ = some (.int .i64 f.Kind) := F62.out.cell 0; have cdk10_1 : (w50).cell? ⟨w.heap.size, 1, none⟩ = some (.int .i64 f.From) := F62.out.cell 1; have cdk10_2 : (w50).cell? ⟨w.heap.size, 2, none⟩ = some (.int .i64 f.To) := F62.out.cell 2; have cdk10_3 : (w50).cell? ⟨w.heap.size, 3, none⟩ = some (.int .i64 f.Seq) := F62.out.cell 3; have cdk10_4 : (w50).cell? ⟨w.heap.size, 4, none⟩ = some (.int .i64 f.Fragment) := F62.out.cell 4; have cdk10_5 : (w50).cell? ⟨w.heap.size, 5, none⟩ = some (.bool f.More) := F62.out.cell 5; have cdk10_6 : (w50).cell? ⟨w.heap.size, 6, none⟩ = some (.bool f.Retry) := F62.out.cell 6; have cdk10_7 : (w50).cell? ⟨w.heap.size, 7, none⟩ = some (.int .i64 f.Duration) := F62.out.cell 7; have cdk10_8 : (w50).cell? ⟨w.heap.size, 8, none⟩ = some (.slice Af nf cf) := F62.out.cell 8)
        | (go_at_call 44; (with_reducible refine (HX.out ▸ sn.specAc x0 A39 n40 c41 _ _ _ (sn.sen_rq F61.out.rd) (by have h1 := (sn.sen_rq F61.out.rd).len; have h2 := HL0.out; have h3 := HN0.out; omega) f k A51 n52 c53).mono ?_); rintro e w63 hp; obtain ⟨A64, n65, c66, rfl, ho, hb⟩ := sn.ac_out hp; clear hp; obtain ⟨fp67, ho2⟩ := sn.sen_oo ho; clear ho; have F68 := Lib.hid ho2; clear ho2; have B69 := Lib.hid (B57.out.trans (hb.mono B57.out.size)); have Z70 := Lib.hid hb.size; have F71 := Lib.hid (F59.out.below hb); have F72 := Lib.hid (F60.out.below hb); have F73 := Lib.hid (F61.out.below hb); have F74 := Lib.hid (F56.out.below hb); have F75 := Lib.hid (F62.out.below hb); clear hb B57 F59 F60 F61 F56 F62; have cek10_0 : (w63).cell? ⟨w.heap.size, 0, none⟩ = some (.int .i64 f.Kind) := F75.out.cell 0; have cek10_1 : (w63).cell? ⟨w.heap.size, 1, none⟩ = some (.int .i64 f.From) := F75.out.cell 1; have cek10_2 : (w63).cell? ⟨w.heap.size, 2, none⟩ = some (.int .i64 f.To) := F75.out.cell 2; have cek10_3 : (w63).cell? ⟨w.heap.size, 3, none⟩ = some (.int .i64 f.Seq) := F75.out.cell 3; have cek10_4 : (w63).cell? ⟨w.heap.size, 4, none⟩ = some (.int .i64 f.Fragment) := F75.out.cell 4; have cek10_5 : (w63).cell? ⟨w.heap.size, 5, none⟩ = some (.bool f.More) := F75.out.cell 5; have cek10_6 : (w63).cell? ⟨w.heap.size, 6, none⟩ = some (.bool f.Retry) := F75.out.cell 6; have cek10_7 : (w63).cell? ⟨w.heap.size, 7, none⟩ = some (.int .i64 f.Duration) := F75.out.cell 7; have cek10_8 : (w63).cell? ⟨w.heap.size, 8, none⟩ = some (.slice Af nf cf) := F75.out.cell 8))
      clear cak10_0 cak10_1 cak10_2 cak10_3 cak10_4 cak10_5 cak10_6 cak10_7 cak10_8 cbk10_0 cbk10_1 cbk10_2 cbk10_3 cbk10_4 cbk10_5 cbk10_6 cbk10_7 cbk10_8 cdk10_0 cdk10_1 cdk10_2 cdk10_3 cdk10_4 cdk10_5 cdk10_6 cdk10_7 cdk10_8 cek10_0 cek10_1 cek10_2 cek10_3 cek10_4 cek10_5 cek10_6 cek10_7 cek10_8
      clear F73
      clear F74
      have ck10_0 : (w63).cell? ⟨w.heap.size, 0, none⟩ = some (.int .i64 f.Kind) := F75.out.cell 0
      have ck10_1 : (w63).cell? ⟨w.heap.size, 1, none⟩ = some (.int .i64 f.From) := F75.out.cell 1
      have ck10_2 : (w63).cell? ⟨w.heap.size, 2, none⟩ = some (.int .i64 f.To) := F75.out.cell 2
      have ck10_3 : (w63).cell? ⟨w.heap.size, 3, none⟩ = some (.int .i64 f.Seq) := F75.out.cell 3
      have ck10_4 : (w63).cell? ⟨w.heap.size, 4, none⟩ = some (.int .i64 f.Fragment) := F75.out.cell 4
      have ck10_5 : (w63).cell? ⟨w.heap.size, 5, none⟩ = some (.bool f.More) := F75.out.cell 5
      have ck10_6 : (w63).cell? ⟨w.heap.size, 6, none⟩ = some (.bool f.Retry) := F75.out.cell 6
      have ck10_7 : (w63).cell? ⟨w.heap.size, 7, none⟩ = some (.int .i64 f.Duration) := F75.out.cell 7
      have ck10_8 : (w63).cell? ⟨w.heap.size, 8, none⟩ = some (.slice Af nf cf) := F75.out.cell 8
      go_wp2_with fail
      clear ck10_0 ck10_1 ck10_2 ck10_3 ck10_4 ck10_5 ck10_6 ck10_7 ck10_8
      (with_reducible refine (ux.toSeenFrameS F71.out S20.out).mono ?_)
      rintro e w76 hp
      obtain ⟨v81, fp80, rfl, ho, hb⟩ := hp.parts
      clear hp
      obtain ⟨A77, n78, c79, rfl⟩ := ux.rowSen_slo ho.1
      have F82 := Lib.hid ho
      clear ho
      have B83 := Lib.hid (B69.out.trans (hb.mono B69.out.size))
      have Z84 := Lib.hid hb.size
      have F85 := Lib.hid (F71.out.below hb)
      have F86 := Lib.hid (F72.out.below hb)
      have F87 := Lib.hid (F68.out.below hb)
      have F88 := Lib.hid (F75.out.below hb)
      clear hb B69 F71 F72 F68 F75
      have ck10_0 : (w76).cell? ⟨w.heap.size, 0, none⟩ = some (.int .i64 f.Kind) := F88.out.cell 0
      have ck10_1 : (w76).cell? ⟨w.heap.size, 1, none⟩ = some (.int .i64 f.From) := F88.out.cell 1
      have ck10_2 : (w76).cell? ⟨w.heap.size, 2, none⟩ = some (.int .i64 f.To) := F88.out.cell 2
      have ck10_3 : (w76).cell? ⟨w.heap.size, 3, none⟩ = some (.int .i64 f.Seq) := F88.out.cell 3
      have ck10_4 : (w76).cell? ⟨w.heap.size, 4, none⟩ = some (.int .i64 f.Fragment) := F88.out.cell 4
      have ck10_5 : (w76).cell? ⟨w.heap.size, 5, none⟩ = some (.bool f.More) := F88.out.cell 5
      have ck10_6 : (w76).cell? ⟨w.heap.size, 6, none⟩ = some (.bool f.Retry) := F88.out.cell 6
      have ck10_7 : (w76).cell? ⟨w.heap.size, 7, none⟩ = some (.int .i64 f.Duration) := F88.out.cell 7
      have ck10_8 : (w76).cell? ⟨w.heap.size, 8, none⟩ = some (.slice Af nf cf) := F88.out.cell 8
      go_wp2_with fail
      clear ck10_0 ck10_1 ck10_2 ck10_3 ck10_4 ck10_5 ck10_6 ck10_7 ck10_8
      (with_reducible refine (ux.toMacFrame F86.out S31.out).mono ?_)
      rintro e w89 hp
      obtain ⟨v94, fp93, rfl, ho, hb⟩ := hp.parts
      clear hp
      obtain ⟨A90, n91, c92, f9, rfl, _, _, _⟩ := ux.fra_o ho
      have F95 := Lib.hid ho
      clear ho
      have B96 := Lib.hid (B83.out.trans (hb.mono B83.out.size))
      have Z97 := Lib.hid hb.size
      have F98 := Lib.hid (F85.out.below hb)
      have F99 := Lib.hid (F86.out.below hb)
      have F100 := Lib.hid (F87.out.below hb)
      have F101 := Lib.hid (F82.out.below hb)
      have F102 := Lib.hid (F88.out.below hb)
      clear hb B83 F85 F86 F87 F82 F88
      obtain ⟨V103, hV103⟩ : ∃ x, x = w89.alloc (.cells #[.int .i64 f.Kind, .int .i64 f.From, .int .i64 f.To, .int .i64 f.Seq, .int .i64 f.Fragment, .bool f.More, .bool f.Retry, .int .i64 f.Duration, .slice A90 n91 c92] 25) := ⟨_, rfl⟩
      have hb : Below w89.heap.size w89 V103 := by rw [hV103]; exact bx.below_box _ _
      have hz9 : w89.heap.size + 1 ≤ V103.heap.size := by rw [hV103]; simp
      have Z104 := Lib.hid hz9
      clear hz9
      have B105 := Lib.hid (B96.out.trans (hb.mono B96.out.size))
      have Z106 := Lib.hid hb.size
      have F107 := Lib.hid (F98.out.below hb)
      have F108 := Lib.hid (F99.out.below hb)
      have F109 := Lib.hid (F100.out.below hb)
      have F110 := Lib.hid (F101.out.below hb)
      have F111 := Lib.hid (F95.out.below hb)
      have F112 := Lib.hid (F102.out.below hb)
      clear hb B96 F98 F99 F100 F101 F95 F102
      have X113 := Lib.hid (show bx.Bx 25 V103 w89.heap.size #[.int .i64 f.Kind, .int .i64 f.From, .int .i64 f.To, .int .i64 f.Seq, .int .i64 f.Fragment, .bool f.More, .bool f.Retry, .int .i64 f.Duration, .slice A90 n91 c92] by rw [hV103]; exact bx.Bx.made _ _ _)
      have ck10_0 : (w89.alloc (.cells #[.int .i64 f.Kind, .int .i64 f.From, .int .i64 f.To, .int .i64 f.Seq, .int .i64 f.Fragment, .bool f.More, .bool f.Retry, .int .i64 f.Duration, .slice A90 n91 c92] 25)).cell? ⟨w.heap.size, 0, none⟩ = some (.int .i64 f.Kind) := by rw [← hV103]; exact F112.out.cell 0
      have ck10_1 : (w89.alloc (.cells #[.int .i64 f.Kind, .int .i64 f.From, .int .i64 f.To, .int .i64 f.Seq, .int .i64 f.Fragment, .bool f.More, .bool f.Retry, .int .i64 f.Duration, .slice A90 n91 c92] 25)).cell? ⟨w.heap.size, 1, none⟩ = some (.int .i64 f.From) := by rw [← hV103]; exact F112.out.cell 1
      have ck10_2 : (w89.alloc (.cells #[.int .i64 f.Kind, .int .i64 f.From, .int .i64 f.To, .int .i64 f.Seq, .int .i64 f.Fragment, .bool f.More, .bool f.Retry, .int .i64 f.Duration, .slice A90 n91 c92] 25)).cell? ⟨w.heap.size, 2, none⟩ = some (.int .i64 f.To) := by rw [← hV103]; exact F112.out.cell 2
      have ck10_3 : (w89.alloc (.cells #[.int .i64 f.Kind, .int .i64 f.From, .int .i64 f.To, .int .i64 f.Seq, .int .i64 f.Fragment, .bool f.More, .bool f.Retry, .int .i64 f.Duration, .slice A90 n91 c92] 25)).cell? ⟨w.heap.size, 3, none⟩ = some (.int .i64 f.Seq) := by rw [← hV103]; exact F112.out.cell 3
      have ck10_4 : (w89.alloc (.cells #[.int .i64 f.Kind, .int .i64 f.From, .int .i64 f.To, .int .i64 f.Seq, .int .i64 f.Fragment, .bool f.More, .bool f.Retry, .int .i64 f.Duration, .slice A90 n91 c92] 25)).cell? ⟨w.heap.size, 4, none⟩ = some (.int .i64 f.Fragment) := by rw [← hV103]; exact F112.out.cell 4
      have ck10_5 : (w89.alloc (.cells #[.int .i64 f.Kind, .int .i64 f.From, .int .i64 f.To, .int .i64 f.Seq, .int .i64 f.Fragment, .bool f.More, .bool f.Retry, .int .i64 f.Duration, .slice A90 n91 c92] 25)).cell? ⟨w.heap.size, 5, none⟩ = some (.bool f.More) := by rw [← hV103]; exact F112.out.cell 5
      have ck10_6 : (w89.alloc (.cells #[.int .i64 f.Kind, .int .i64 f.From, .int .i64 f.To, .int .i64 f.Seq, .int .i64 f.Fragment, .bool f.More, .bool f.Retry, .int .i64 f.Duration, .slice A90 n91 c92] 25)).cell? ⟨w.heap.size, 6, none⟩ = some (.bool f.Retry) := by rw [← hV103]; exact F112.out.cell 6
      have ck10_7 : (w89.alloc (.cells #[.int .i64 f.Kind, .int .i64 f.From, .int .i64 f.To, .int .i64 f.Seq, .int .i64 f.Fragment, .bool f.More, .bool f.Retry, .int .i64 f.Duration, .slice A90 n91 c92] 25)).cell? ⟨w.heap.size, 7, none⟩ = some (.int .i64 f.Duration) := by rw [← hV103]; exact F112.out.cell 7
      have ck10_8 : (w89.alloc (.cells #[.int .i64 f.Kind, .int .i64 f.From, .int .i64 f.To, .int .i64 f.Seq, .int .i64 f.Fragment, .bool f.More, .bool f.Retry, .int .i64 f.Duration, .slice A90 n91 c92] 25)).cell? ⟨w.heap.size, 8, none⟩ = some (.slice Af nf cf) := by rw [← hV103]; exact F112.out.cell 8
      have ck114_0 : (w89.alloc (.cells #[.int .i64 f.Kind, .int .i64 f.From, .int .i64 f.To, .int .i64 f.Seq, .int .i64 f.Fragment, .bool f.More, .bool f.Retry, .int .i64 f.Duration, .slice A90 n91 c92] 25)).cell? ⟨w89.heap.size, 0, none⟩ = some (.int .i64 f.Kind) := by rw [← hV103]; exact X113.out.cell 0
      have ck114_1 : (w89.alloc (.cells #[.int .i64 f.Kind, .int .i64 f.From, .int .i64 f.To, .int .i64 f.Seq, .int .i64 f.Fragment, .bool f.More, .bool f.Retry, .int .i64 f.Duration, .slice A90 n91 c92] 25)).cell? ⟨w89.heap.size, 1, none⟩ = some (.int .i64 f.From) := by rw [← hV103]; exact X113.out.cell 1
      have ck114_2 : (w89.alloc (.cells #[.int .i64 f.Kind, .int .i64 f.From, .int .i64 f.To, .int .i64 f.Seq, .int .i64 f.Fragment, .bool f.More, .bool f.Retry, .int .i64 f.Duration, .slice A90 n91 c92] 25)).cell? ⟨w89.heap.size, 2, none⟩ = some (.int .i64 f.To) := by rw [← hV103]; exact X113.out.cell 2
      have ck114_3 : (w89.alloc (.cells #[.int .i64 f.Kind, .int .i64 f.From, .int .i64 f.To, .int .i64 f.Seq, .int .i64 f.Fragment, .bool f.More, .bool f.Retry, .int .i64 f.Duration, .slice A90 n91 c92] 25)).cell? ⟨w89.heap.size, 3, none⟩ = some (.int .i64 f.Seq) := by rw [← hV103]; exact X113.out.cell 3
      have ck114_4 : (w89.alloc (.cells #[.int .i64 f.Kind, .int .i64 f.From, .int .i64 f.To, .int .i64 f.Seq, .int .i64 f.Fragment, .bool f.More, .bool f.Retry, .int .i64 f.Duration, .slice A90 n91 c92] 25)).cell? ⟨w89.heap.size, 4, none⟩ = some (.int .i64 f.Fragment) := by rw [← hV103]; exact X113.out.cell 4
      have ck114_5 : (w89.alloc (.cells #[.int .i64 f.Kind, .int .i64 f.From, .int .i64 f.To, .int .i64 f.Seq, .int .i64 f.Fragment, .bool f.More, .bool f.Retry, .int .i64 f.Duration, .slice A90 n91 c92] 25)).cell? ⟨w89.heap.size, 5, none⟩ = some (.bool f.More) := by rw [← hV103]; exact X113.out.cell 5
      have ck114_6 : (w89.alloc (.cells #[.int .i64 f.Kind, .int .i64 f.From, .int .i64 f.To, .int .i64 f.Seq, .int .i64 f.Fragment, .bool f.More, .bool f.Retry, .int .i64 f.Duration, .slice A90 n91 c92] 25)).cell? ⟨w89.heap.size, 6, none⟩ = some (.bool f.Retry) := by rw [← hV103]; exact X113.out.cell 6
      have ck114_7 : (w89.alloc (.cells #[.int .i64 f.Kind, .int .i64 f.From, .int .i64 f.To, .int .i64 f.Seq, .int .i64 f.Fragment, .bool f.More, .bool f.Retry, .int .i64 f.Duration, .slice A90 n91 c92] 25)).cell? ⟨w89.heap.size, 7, none⟩ = some (.int .i64 f.Duration) := by rw [← hV103]; exact X113.out.cell 7
      have ck114_8 : (w89.alloc (.cells #[.int .i64 f.Kind, .int .i64 f.From, .int .i64 f.To, .int .i64 f.Seq, .int .i64 f.Fragment, .bool f.More, .bool f.Retry, .int .i64 f.Duration, .slice A90 n91 c92] 25)).cell? ⟨w89.heap.size, 8, none⟩ = some (.slice A90 n91 c92) := by rw [← hV103]; exact X113.out.cell 8
      go_wp2_with fail
      rw [← hV103]
      clear hV103 ck10_0 ck10_1 ck10_2 ck10_3 ck10_4 ck10_5 ck10_6 ck10_7 ck10_8 ck114_0 ck114_1 ck114_2 ck114_3 ck114_4 ck114_5 ck114_6 ck114_7 ck114_8
      (with_reducible refine (HX.out ▸ sn.implAc x0 A77 n78 c79 _ _ _ (sn.sen_rq F110.out.rd) (by have h1 := (sn.sen_rq F110.out.rd).len; have h2 := HL0.out; have h3 := HN0.out; omega) f k A90 n91 c92).mono ?_)
      rintro e w115 hp
      obtain ⟨A116, n117, c118, rfl, ho, hb⟩ := sn.ac_out hp
      clear hp
      obtain ⟨fp119, ho2⟩ := sn.sen_oo ho
      clear ho
      have F120 := Lib.hid ho2
      clear ho2
      have B121 := Lib.hid (B105.out.trans (hb.mono B105.out.size))
      have Z122 := Lib.hid hb.size
      have F123 := Lib.hid (F107.out.below hb)
      have F124 := Lib.hid (F108.out.below hb)
      have F125 := Lib.hid (F109.out.below hb)
      have F126 := Lib.hid (F110.out.below hb)
      have F127 := Lib.hid (F111.out.below hb)
      have F128 := Lib.hid (F112.out.below hb)
      have F129 := Lib.hid (X113.out.below hb)
      clear hb B105 F107 F108 F109 F110 F111 F112 X113
      have ck10_0 : (w115).cell? ⟨w.heap.size, 0, none⟩ = some (.int .i64 f.Kind) := F128.out.cell 0
      have ck10_1 : (w115).cell? ⟨w.heap.size, 1, none⟩ = some (.int .i64 f.From) := F128.out.cell 1
      have ck10_2 : (w115).cell? ⟨w.heap.size, 2, none⟩ = some (.int .i64 f.To) := F128.out.cell 2
      have ck10_3 : (w115).cell? ⟨w.heap.size, 3, none⟩ = some (.int .i64 f.Seq) := F128.out.cell 3
      have ck10_4 : (w115).cell? ⟨w.heap.size, 4, none⟩ = some (.int .i64 f.Fragment) := F128.out.cell 4
      have ck10_5 : (w115).cell? ⟨w.heap.size, 5, none⟩ = some (.bool f.More) := F128.out.cell 5
      have ck10_6 : (w115).cell? ⟨w.heap.size, 6, none⟩ = some (.bool f.Retry) := F128.out.cell 6
      have ck10_7 : (w115).cell? ⟨w.heap.size, 7, none⟩ = some (.int .i64 f.Duration) := F128.out.cell 7
      have ck10_8 : (w115).cell? ⟨w.heap.size, 8, none⟩ = some (.slice Af nf cf) := F128.out.cell 8
      have ck114_0 : (w115).cell? ⟨w89.heap.size, 0, none⟩ = some (.int .i64 f.Kind) := F129.out.cell 0
      have ck114_1 : (w115).cell? ⟨w89.heap.size, 1, none⟩ = some (.int .i64 f.From) := F129.out.cell 1
      have ck114_2 : (w115).cell? ⟨w89.heap.size, 2, none⟩ = some (.int .i64 f.To) := F129.out.cell 2
      have ck114_3 : (w115).cell? ⟨w89.heap.size, 3, none⟩ = some (.int .i64 f.Seq) := F129.out.cell 3
      have ck114_4 : (w115).cell? ⟨w89.heap.size, 4, none⟩ = some (.int .i64 f.Fragment) := F129.out.cell 4
      have ck114_5 : (w115).cell? ⟨w89.heap.size, 5, none⟩ = some (.bool f.More) := F129.out.cell 5
      have ck114_6 : (w115).cell? ⟨w89.heap.size, 6, none⟩ = some (.bool f.Retry) := F129.out.cell 6
      have ck114_7 : (w115).cell? ⟨w89.heap.size, 7, none⟩ = some (.int .i64 f.Duration) := F129.out.cell 7
      have ck114_8 : (w115).cell? ⟨w89.heap.size, 8, none⟩ = some (.slice A90 n91 c92) := F129.out.cell 8
      go_wp2_with fail
      clear ck10_0 ck10_1 ck10_2 ck10_3 ck10_4 ck10_5 ck10_6 ck10_7 ck10_8 ck114_0 ck114_1 ck114_2 ck114_3 ck114_4 ck114_5 ck114_6 ck114_7 ck114_8
      (with_reducible refine (ux.eqSeenFrameS F120.out.rd F125.out.rd).mono ?_)
      rintro e w130 hp
      obtain ⟨rfl, hb⟩ := bx.b_parts rfl hp
      clear hp
      have B131 := Lib.hid (B121.out.trans (hb.mono B121.out.size))
      have Z132 := Lib.hid hb.size
      have F133 := Lib.hid (F123.out.below hb)
      have F134 := Lib.hid (F124.out.below hb)
      have F135 := Lib.hid (F125.out.below hb)
      have F136 := Lib.hid (F126.out.below hb)
      have F137 := Lib.hid (F127.out.below hb)
      have F138 := Lib.hid (F120.out.below hb)
      have F139 := Lib.hid (F128.out.below hb)
      have F140 := Lib.hid (F129.out.below hb)
      clear hb B121 F123 F124 F125 F126 F127 F120 F128 F129
      have ck10_0 : (w130).cell? ⟨w.heap.size, 0, none⟩ = some (.int .i64 f.Kind) := F139.out.cell 0
      have ck10_1 : (w130).cell? ⟨w.heap.size, 1, none⟩ = some (.int .i64 f.From) := F139.out.cell 1
      have ck10_2 : (w130).cell? ⟨w.heap.size, 2, none⟩ = some (.int .i64 f.To) := F139.out.cell 2
      have ck10_3 : (w130).cell? ⟨w.heap.size, 3, none⟩ = some (.int .i64 f.Seq) := F139.out.cell 3
      have ck10_4 : (w130).cell? ⟨w.heap.size, 4, none⟩ = some (.int .i64 f.Fragment) := F139.out.cell 4
      have ck10_5 : (w130).cell? ⟨w.heap.size, 5, none⟩ = some (.bool f.More) := F139.out.cell 5
      have ck10_6 : (w130).cell? ⟨w.heap.size, 6, none⟩ = some (.bool f.Retry) := F139.out.cell 6
      have ck10_7 : (w130).cell? ⟨w.heap.size, 7, none⟩ = some (.int .i64 f.Duration) := F139.out.cell 7
      have ck10_8 : (w130).cell? ⟨w.heap.size, 8, none⟩ = some (.slice Af nf cf) := F139.out.cell 8
      have ck114_0 : (w130).cell? ⟨w89.heap.size, 0, none⟩ = some (.int .i64 f.Kind) := F140.out.cell 0
      have ck114_1 : (w130).cell? ⟨w89.heap.size, 1, none⟩ = some (.int .i64 f.From) := F140.out.cell 1
      have ck114_2 : (w130).cell? ⟨w89.heap.size, 2, none⟩ = some (.int .i64 f.To) := F140.out.cell 2
      have ck114_3 : (w130).cell? ⟨w89.heap.size, 3, none⟩ = some (.int .i64 f.Seq) := F140.out.cell 3
      have ck114_4 : (w130).cell? ⟨w89.heap.size, 4, none⟩ = some (.int .i64 f.Fragment) := F140.out.cell 4
      have ck114_5 : (w130).cell? ⟨w89.heap.size, 5, none⟩ = some (.bool f.More) := F140.out.cell 5
      have ck114_6 : (w130).cell? ⟨w89.heap.size, 6, none⟩ = some (.bool f.Retry) := F140.out.cell 6
      have ck114_7 : (w130).cell? ⟨w89.heap.size, 7, none⟩ = some (.int .i64 f.Duration) := F140.out.cell 7
      have ck114_8 : (w130).cell? ⟨w89.heap.size, 8, none⟩ = some (.slice A90 n91 c92) := F140.out.cell 8
      go_wp2_with fail
      clear ck10_0 ck10_1 ck10_2 ck10_3 ck10_4 ck10_5 ck10_6 ck10_7 ck10_8 ck114_0 ck114_1 ck114_2 ck114_3 ck114_4 ck114_5 ck114_6 ck114_7 ck114_8
      (with_reducible refine (ux.toSeenFrameS F133.out S20.out).mono ?_)
      rintro e w141 hp
      obtain ⟨v146, fp145, rfl, ho, hb⟩ := hp.parts
      clear hp
      obtain ⟨A142, n143, c144, rfl⟩ := ux.rowSen_slo ho.1
      have F147 := Lib.hid ho
      clear ho
      have B148 := Lib.hid (B131.out.trans (hb.mono B131.out.size))
      have Z149 := Lib.hid hb.size
      have F150 := Lib.hid (F133.out.below hb)
      have F151 := Lib.hid (F134.out.below hb)
      have F152 := Lib.hid (F135.out.below hb)
      have F153 := Lib.hid (F136.out.below hb)
      have F154 := Lib.hid (F137.out.below hb)
      have F155 := Lib.hid (F138.out.below hb)
      have F156 := Lib.hid (F139.out.below hb)
      have F157 := Lib.hid (F140.out.below hb)
      clear hb B131 F133 F134 F135 F136 F137 F138 F139 F140
      have ck10_0 : (w141).cell? ⟨w.heap.size, 0, none⟩ = some (.int .i64 f.Kind) := F156.out.cell 0
      have ck10_1 : (w141).cell? ⟨w.heap.size, 1, none⟩ = some (.int .i64 f.From) := F156.out.cell 1
      have ck10_2 : (w141).cell? ⟨w.heap.size, 2, none⟩ = some (.int .i64 f.To) := F156.out.cell 2
      have ck10_3 : (w141).cell? ⟨w.heap.size, 3, none⟩ = some (.int .i64 f.Seq) := F156.out.cell 3
      have ck10_4 : (w141).cell? ⟨w.heap.size, 4, none⟩ = some (.int .i64 f.Fragment) := F156.out.cell 4
      have ck10_5 : (w141).cell? ⟨w.heap.size, 5, none⟩ = some (.bool f.More) := F156.out.cell 5
      have ck10_6 : (w141).cell? ⟨w.heap.size, 6, none⟩ = some (.bool f.Retry) := F156.out.cell 6
      have ck10_7 : (w141).cell? ⟨w.heap.size, 7, none⟩ = some (.int .i64 f.Duration) := F156.out.cell 7
      have ck10_8 : (w141).cell? ⟨w.heap.size, 8, none⟩ = some (.slice Af nf cf) := F156.out.cell 8
      have ck114_0 : (w141).cell? ⟨w89.heap.size, 0, none⟩ = some (.int .i64 f.Kind) := F157.out.cell 0
      have ck114_1 : (w141).cell? ⟨w89.heap.size, 1, none⟩ = some (.int .i64 f.From) := F157.out.cell 1
      have ck114_2 : (w141).cell? ⟨w89.heap.size, 2, none⟩ = some (.int .i64 f.To) := F157.out.cell 2
      have ck114_3 : (w141).cell? ⟨w89.heap.size, 3, none⟩ = some (.int .i64 f.Seq) := F157.out.cell 3
      have ck114_4 : (w141).cell? ⟨w89.heap.size, 4, none⟩ = some (.int .i64 f.Fragment) := F157.out.cell 4
      have ck114_5 : (w141).cell? ⟨w89.heap.size, 5, none⟩ = some (.bool f.More) := F157.out.cell 5
      have ck114_6 : (w141).cell? ⟨w89.heap.size, 6, none⟩ = some (.bool f.Retry) := F157.out.cell 6
      have ck114_7 : (w141).cell? ⟨w89.heap.size, 7, none⟩ = some (.int .i64 f.Duration) := F157.out.cell 7
      have ck114_8 : (w141).cell? ⟨w89.heap.size, 8, none⟩ = some (.slice A90 n91 c92) := F157.out.cell 8
      go_wp2_with fail
      clear ck10_0 ck10_1 ck10_2 ck10_3 ck10_4 ck10_5 ck10_6 ck10_7 ck10_8 ck114_0 ck114_1 ck114_2 ck114_3 ck114_4 ck114_5 ck114_6 ck114_7 ck114_8
      (with_reducible refine (ux.eqSeenFrameS F153.out.rd F147.out.rd).mono ?_)
      rintro e w158 hp
      obtain ⟨rfl, hb⟩ := bx.b_parts rfl hp
      clear hp
      have B159 := Lib.hid (B148.out.trans (hb.mono B148.out.size))
      have Z160 := Lib.hid hb.size
      have F161 := Lib.hid (F150.out.below hb)
      have F162 := Lib.hid (F151.out.below hb)
      have F163 := Lib.hid (F152.out.below hb)
      have F164 := Lib.hid (F153.out.below hb)
      have F165 := Lib.hid (F154.out.below hb)
      have F166 := Lib.hid (F155.out.below hb)
      have F167 := Lib.hid (F147.out.below hb)
      have F168 := Lib.hid (F156.out.below hb)
      have F169 := Lib.hid (F157.out.below hb)
      clear hb B148 F150 F151 F152 F153 F154 F155 F147 F156 F157
      clear F167
      have ck10_0 : (w158).cell? ⟨w.heap.size, 0, none⟩ = some (.int .i64 f.Kind) := F168.out.cell 0
      have ck10_1 : (w158).cell? ⟨w.heap.size, 1, none⟩ = some (.int .i64 f.From) := F168.out.cell 1
      have ck10_2 : (w158).cell? ⟨w.heap.size, 2, none⟩ = some (.int .i64 f.To) := F168.out.cell 2
      have ck10_3 : (w158).cell? ⟨w.heap.size, 3, none⟩ = some (.int .i64 f.Seq) := F168.out.cell 3
      have ck10_4 : (w158).cell? ⟨w.heap.size, 4, none⟩ = some (.int .i64 f.Fragment) := F168.out.cell 4
      have ck10_5 : (w158).cell? ⟨w.heap.size, 5, none⟩ = some (.bool f.More) := F168.out.cell 5
      have ck10_6 : (w158).cell? ⟨w.heap.size, 6, none⟩ = some (.bool f.Retry) := F168.out.cell 6
      have ck10_7 : (w158).cell? ⟨w.heap.size, 7, none⟩ = some (.int .i64 f.Duration) := F168.out.cell 7
      have ck10_8 : (w158).cell? ⟨w.heap.size, 8, none⟩ = some (.slice Af nf cf) := F168.out.cell 8
      have ck114_0 : (w158).cell? ⟨w89.heap.size, 0, none⟩ = some (.int .i64 f.Kind) := F169.out.cell 0
      have ck114_1 : (w158).cell? ⟨w89.heap.size, 1, none⟩ = some (.int .i64 f.From) := F169.out.cell 1
      have ck114_2 : (w158).cell? ⟨w89.heap.size, 2, none⟩ = some (.int .i64 f.To) := F169.out.cell 2
      have ck114_3 : (w158).cell? ⟨w89.heap.size, 3, none⟩ = some (.int .i64 f.Seq) := F169.out.cell 3
      have ck114_4 : (w158).cell? ⟨w89.heap.size, 4, none⟩ = some (.int .i64 f.Fragment) := F169.out.cell 4
      have ck114_5 : (w158).cell? ⟨w89.heap.size, 5, none⟩ = some (.bool f.More) := F169.out.cell 5
      have ck114_6 : (w158).cell? ⟨w89.heap.size, 6, none⟩ = some (.bool f.Retry) := F169.out.cell 6
      have ck114_7 : (w158).cell? ⟨w89.heap.size, 7, none⟩ = some (.int .i64 f.Duration) := F169.out.cell 7
      have ck114_8 : (w158).cell? ⟨w89.heap.size, 8, none⟩ = some (.slice A90 n91 c92) := F169.out.cell 8
      go_wp2_with fail
      clear ck10_0 ck10_1 ck10_2 ck10_3 ck10_4 ck10_5 ck10_6 ck10_7 ck10_8 ck114_0 ck114_1 ck114_2 ck114_3 ck114_4 ck114_5 ck114_6 ck114_7 ck114_8
      have hb : Below w158.heap.size w158 w158.drew := own.below_drew (Below.refl _ _)
      have B170 := Lib.hid (B159.out.trans (hb.mono B159.out.size))
      have Z171 := Lib.hid hb.size
      have F172 := Lib.hid (F161.out.below hb)
      have F173 := Lib.hid (F162.out.below hb)
      have F174 := Lib.hid (F163.out.below hb)
      have F175 := Lib.hid (F164.out.below hb)
      have F176 := Lib.hid (F165.out.below hb)
      have F177 := Lib.hid (F166.out.below hb)
      have F178 := Lib.hid (F168.out.below hb)
      have F179 := Lib.hid (F169.out.below hb)
      clear hb B159 F161 F162 F163 F164 F165 F166 F168 F169
      have cak114_0 : (w158.drew).cell? ⟨w89.heap.size, 0, none⟩ = some (.int .i64 f.Kind) := F179.out.cell 0
      have cak114_1 : (w158.drew).cell? ⟨w89.heap.size, 1, none⟩ = some (.int .i64 f.From) := F179.out.cell 1
      have cak114_2 : (w158.drew).cell? ⟨w89.heap.size, 2, none⟩ = some (.int .i64 f.To) := F179.out.cell 2
      have cak114_3 : (w158.drew).cell? ⟨w89.heap.size, 3, none⟩ = some (.int .i64 f.Seq) := F179.out.cell 3
      have cak114_4 : (w158.drew).cell? ⟨w89.heap.size, 4, none⟩ = some (.int .i64 f.Fragment) := F179.out.cell 4
      have cak114_5 : (w158.drew).cell? ⟨w89.heap.size, 5, none⟩ = some (.bool f.More) := F179.out.cell 5
      have cak114_6 : (w158.drew).cell? ⟨w89.heap.size, 6, none⟩ = some (.bool f.Retry) := F179.out.cell 6
      have cak114_7 : (w158.drew).cell? ⟨w89.heap.size, 7, none⟩ = some (.int .i64 f.Duration) := F179.out.cell 7
      have cak114_8 : (w158.drew).cell? ⟨w89.heap.size, 8, none⟩ = some (.slice A90 n91 c92) := F179.out.cell 8
      have cak10_0 : (w158.drew).cell? ⟨w.heap.size, 0, none⟩ = some (.int .i64 f.Kind) := F178.out.cell 0
      have cak10_1 : (w158.drew).cell? ⟨w.heap.size, 1, none⟩ = some (.int .i64 f.From) := F178.out.cell 1
      have cak10_2 : (w158.drew).cell? ⟨w.heap.size, 2, none⟩ = some (.int .i64 f.To) := F178.out.cell 2
      have cak10_3 : (w158.drew).cell? ⟨w.heap.size, 3, none⟩ = some (.int .i64 f.Seq) := F178.out.cell 3
      have cak10_4 : (w158.drew).cell? ⟨w.heap.size, 4, none⟩ = some (.int .i64 f.Fragment) := F178.out.cell 4
      have cak10_5 : (w158.drew).cell? ⟨w.heap.size, 5, none⟩ = some (.bool f.More) := F178.out.cell 5
      have cak10_6 : (w158.drew).cell? ⟨w.heap.size, 6, none⟩ = some (.bool f.Retry) := F178.out.cell 6
      have cak10_7 : (w158.drew).cell? ⟨w.heap.size, 7, none⟩ = some (.int .i64 f.Duration) := F178.out.cell 7
      have cak10_8 : (w158.drew).cell? ⟨w.heap.size, 8, none⟩ = some (.slice Af nf cf) := F178.out.cell 8
      go_region_held3 (fun w' => w'.cell? ⟨w89.heap.size, 0, none⟩ = some (.int .i64 f.Kind) ∧ w'.cell? ⟨w89.heap.size, 1, none⟩ = some (.int .i64 f.From) ∧ w'.cell? ⟨w89.heap.size, 2, none⟩ = some (.int .i64 f.To) ∧ w'.cell? ⟨w89.heap.size, 3, none⟩ = some (.int .i64 f.Seq) ∧ w'.cell? ⟨w89.heap.size, 4, none⟩ = some (.int .i64 f.Fragment) ∧ w'.cell? ⟨w89.heap.size, 5, none⟩ = some (.bool f.More) ∧ w'.cell? ⟨w89.heap.size, 6, none⟩ = some (.bool f.Retry) ∧ w'.cell? ⟨w89.heap.size, 7, none⟩ = some (.int .i64 f.Duration) ∧ w'.cell? ⟨w89.heap.size, 8, none⟩ = some (.slice A90 n91 c92) ∧ w'.cell? ⟨w.heap.size, 0, none⟩ = some (.int .i64 f.Kind) ∧ w'.cell? ⟨w.heap.size, 1, none⟩ = some (.int .i64 f.From) ∧ w'.cell? ⟨w.heap.size, 2, none⟩ = some (.int .i64 f.To) ∧ w'.cell? ⟨w.heap.size, 3, none⟩ = some (.int .i64 f.Seq) ∧ w'.cell? ⟨w.heap.size, 4, none⟩ = some (.int .i64 f.Fragment) ∧ w'.cell? ⟨w.heap.size, 5, none⟩ = some (.bool f.More) ∧ w'.cell? ⟨w.heap.size, 6, none⟩ = some (.bool f.Retry) ∧ w'.cell? ⟨w.heap.size, 7, none⟩ = some (.int .i64 f.Duration) ∧ w'.cell? ⟨w.heap.size, 8, none⟩ = some (.slice Af nf cf)) (first | (with_reducible exact ⟨cak114_0, cak114_1, cak114_2, cak114_3, cak114_4, cak114_5, cak114_6, cak114_7, cak114_8, cak10_0, cak10_1, cak10_2, cak10_3, cak10_4, cak10_5, cak10_6, cak10_7, cak10_8⟩) | (with_reducible exact ⟨cbk114_0, cbk114_1, cbk114_2, cbk114_3, cbk114_4, cbk114_5, cbk114_6, cbk114_7, cbk114_8, cbk10_0, cbk10_1, cbk10_2, cbk10_3, cbk10_4, cbk10_5, cbk10_6, cbk10_7, cbk10_8⟩) | (with_reducible exact ⟨cdk114_0, cdk114_1, cdk114_2, cdk114_3, cdk114_4, cdk114_5, cdk114_6, cdk114_7, cdk114_8, cdk10_0, cdk10_1, cdk10_2, cdk10_3, cdk10_4, cdk10_5, cdk10_6, cdk10_7, cdk10_8⟩))
        (first
        | (go_at_call 37; refine (ux.toMacFrame F173.out S31.out).mono ?_; rintro e w180 hp; obtain ⟨v185, fp184, rfl, ho, hb⟩ := hp.parts; clear hp; obtain ⟨A181, n182, c183, f9, rfl, _, _, _⟩ := ux.fra_o ho; have F186 := Lib.hid ho; clear ho; have B187 := Lib.hid (B170.out.trans (hb.mono B170.out.size)); have Z188 := Lib.hid hb.size; have F189 := Lib.hid (F172.out.below hb); have F190 := Lib.hid (F173.out.below hb); have F191 := Lib.hid (F174.out.below hb); have F192 := Lib.hid (F175.out.below hb); have F193 := Lib.hid (F176.out.below hb); have F194 := Lib.hid (F177.out.below hb); have F195 := Lib.hid (F178.out.below hb); have F196 := Lib.hid (F179.out.below hb); clear hb B170 F172 F173 F174 F175 F176 F177 F178 F179; have cbk114_0 : (w180).cell? ⟨w89.heap.size, 0, none⟩ = some (.int .i64 f.Kind) := F196.out.cell 0; have cbk114_1 : (w180).cell? ⟨w89.heap.size, 1, none⟩ = some (.int .i64 f.From) := F196.out.cell 1; have cbk114_2 : (w180).cell? ⟨w89.heap.size, 2, none⟩ = some (.int .i64 f.To) := F196.out.cell 2; have cbk114_3 : (w180).cell? ⟨w89.heap.size, 3, none⟩ = some (.int .i64 f.Seq) := F196.out.cell 3; have cbk114_4 : (w180).cell? ⟨w89.heap.size, 4, none⟩ = some (.int .i64 f.Fragment) := F196.out.cell 4; have cbk114_5 : (w180).cell? ⟨w89.heap.size, 5, none⟩ = some (.bool f.More) := F196.out.cell 5; have cbk114_6 : (w180).cell? ⟨w89.heap.size, 6, none⟩ = some (.bool f.Retry) := F196.out.cell 6; have cbk114_7 : (w180).cell? ⟨w89.heap.size, 7, none⟩ = some (.int .i64 f.Duration) := F196.out.cell 7; have cbk114_8 : (w180).cell? ⟨w89.heap.size, 8, none⟩ = some (.slice A90 n91 c92) := F196.out.cell 8; have cbk10_0 : (w180).cell? ⟨w.heap.size, 0, none⟩ = some (.int .i64 f.Kind) := F195.out.cell 0; have cbk10_1 : (w180).cell? ⟨w.heap.size, 1, none⟩ = some (.int .i64 f.From) := F195.out.cell 1; have cbk10_2 : (w180).cell? ⟨w.heap.size, 2, none⟩ = some (.int .i64 f.To) := F195.out.cell 2; have cbk10_3 : (w180).cell? ⟨w.heap.size, 3, none⟩ = some (.int .i64 f.Seq) := F195.out.cell 3; have cbk10_4 : (w180).cell? ⟨w.heap.size, 4, none⟩ = some (.int .i64 f.Fragment) := F195.out.cell 4; have cbk10_5 : (w180).cell? ⟨w.heap.size, 5, none⟩ = some (.bool f.More) := F195.out.cell 5; have cbk10_6 : (w180).cell? ⟨w.heap.size, 6, none⟩ = some (.bool f.Retry) := F195.out.cell 6; have cbk10_7 : (w180).cell? ⟨w.heap.size, 7, none⟩ = some (.int .i64 f.Duration) := F195.out.cell 7; have cbk10_8 : (w180).cell? ⟨w.heap.size, 8, none⟩ = some (.slice Af nf cf) := F195.out.cell 8)
        | (go_at_call 38; refine (ux.eqMacFrame F193.out.rd F186.out.rd).mono ?_; rintro e w197 hp; obtain ⟨rfl, hb⟩ := bx.b_parts rfl hp; clear hp; have B198 := Lib.hid (B187.out.trans (hb.mono B187.out.size)); have Z199 := Lib.hid hb.size; have F200 := Lib.hid (F189.out.below hb); have F201 := Lib.hid (F190.out.below hb); have F202 := Lib.hid (F191.out.below hb); have F203 := Lib.hid (F192.out.below hb); have F204 := Lib.hid (F193.out.below hb); have F205 := Lib.hid (F194.out.below hb); have F206 := Lib.hid (F186.out.below hb); have F207 := Lib.hid (F195.out.below hb); have F208 := Lib.hid (F196.out.below hb); clear hb B187 F189 F190 F191 F192 F193 F194 F186 F195 F196; have cdk114_0 : (w197).cell? ⟨w89.heap.size, 0, none⟩ = some (.int .i64 f.Kind) := F208.out.cell 0; have cdk114_1 : (w197).cell? ⟨w89.heap.size, 1, none⟩ = some (.int .i64 f.From) := F208.out.cell 1; have cdk114_2 : (w197).cell? ⟨w89.heap.size, 2, none⟩ = some (.int .i64 f.To) := F208.out.cell 2; have cdk114_3 : (w197).cell? ⟨w89.heap.size, 3, none⟩ = some (.int .i64 f.Seq) := F208.out.cell 3; have cdk114_4 : (w197).cell? ⟨w89.heap.size, 4, none⟩ = some (.int .i64 f.Fragment) := F208.out.cell 4; have cdk114_5 : (w197).cell? ⟨w89.heap.size, 5, none⟩ = some (.bool f.More) := F208.out.cell 5; have cdk114_6 : (w197).cell? ⟨w89.heap.size, 6, none⟩ = some (.bool f.Retry) := F208.out.cell 6; have cdk114_7 : (w197).cell? ⟨w89.heap.size, 7, none⟩ = some (.int .i64 f.Duration) := F208.out.cell 7; have cdk114_8 : (w197).cell? ⟨w89.heap.size, 8, none⟩ = some (.slice A90 n91 c92) := F208.out.cell 8; have cdk10_0 : (w197).cell? ⟨w.heap.size, 0, none⟩ = some (.int .i64 f.Kind) := F207.out.cell 0; have cdk10_1 : (w197).cell? ⟨w.heap.size, 1, none⟩ = some (.int .i64 f.From) := F207.out.cell 1; have cdk10_2 : (w197).cell? ⟨w.heap.size, 2, none⟩ = some (.int .i64 f.To) := F207.out.cell 2; have cdk10_3 : (w197).cell? ⟨w.heap.size, 3, none⟩ = some (.int .i64 f.Seq) := F207.out.cell 3; have cdk10_4 : (w197).cell? ⟨w.heap.size, 4, none⟩ = some (.int .i64 f.Fragment) := F207.out.cell 4; have cdk10_5 : (w197).cell? ⟨w.heap.size, 5, none⟩ = some (.bool f.More) := F207.out.cell 5; have cdk10_6 : (w197).cell? ⟨w.heap.size, 6, none⟩ = some (.bool f.Retry) := F207.out.cell 6; have cdk10_7 : (w197).cell? ⟨w.heap.size, 7, none⟩ = some (.int .i64 f.Duration) := F207.out.cell 7; have cdk10_8 : (w197).cell? ⟨w.heap.size, 8, none⟩ = some (.slice Af nf cf) := F207.out.cell 8))
      clear cak114_0 cak114_1 cak114_2 cak114_3 cak114_4 cak114_5 cak114_6 cak114_7 cak114_8 cak10_0 cak10_1 cak10_2 cak10_3 cak10_4 cak10_5 cak10_6 cak10_7 cak10_8 cbk114_0 cbk114_1 cbk114_2 cbk114_3 cbk114_4 cbk114_5 cbk114_6 cbk114_7 cbk114_8 cbk10_0 cbk10_1 cbk10_2 cbk10_3 cbk10_4 cbk10_5 cbk10_6 cbk10_7 cbk10_8 cdk114_0 cdk114_1 cdk114_2 cdk114_3 cdk114_4 cdk114_5 cdk114_6 cdk114_7 cdk114_8 cdk10_0 cdk10_1 cdk10_2 cdk10_3 cdk10_4 cdk10_5 cdk10_6 cdk10_7 cdk10_8
      clear F206
      have ck10_0 : (w197).cell? ⟨w.heap.size, 0, none⟩ = some (.int .i64 f.Kind) := F207.out.cell 0
      have ck10_1 : (w197).cell? ⟨w.heap.size, 1, none⟩ = some (.int .i64 f.From) := F207.out.cell 1
      have ck10_2 : (w197).cell? ⟨w.heap.size, 2, none⟩ = some (.int .i64 f.To) := F207.out.cell 2
      have ck10_3 : (w197).cell? ⟨w.heap.size, 3, none⟩ = some (.int .i64 f.Seq) := F207.out.cell 3
      have ck10_4 : (w197).cell? ⟨w.heap.size, 4, none⟩ = some (.int .i64 f.Fragment) := F207.out.cell 4
      have ck10_5 : (w197).cell? ⟨w.heap.size, 5, none⟩ = some (.bool f.More) := F207.out.cell 5
      have ck10_6 : (w197).cell? ⟨w.heap.size, 6, none⟩ = some (.bool f.Retry) := F207.out.cell 6
      have ck10_7 : (w197).cell? ⟨w.heap.size, 7, none⟩ = some (.int .i64 f.Duration) := F207.out.cell 7
      have ck10_8 : (w197).cell? ⟨w.heap.size, 8, none⟩ = some (.slice Af nf cf) := F207.out.cell 8
      have ck114_0 : (w197).cell? ⟨w89.heap.size, 0, none⟩ = some (.int .i64 f.Kind) := F208.out.cell 0
      have ck114_1 : (w197).cell? ⟨w89.heap.size, 1, none⟩ = some (.int .i64 f.From) := F208.out.cell 1
      have ck114_2 : (w197).cell? ⟨w89.heap.size, 2, none⟩ = some (.int .i64 f.To) := F208.out.cell 2
      have ck114_3 : (w197).cell? ⟨w89.heap.size, 3, none⟩ = some (.int .i64 f.Seq) := F208.out.cell 3
      have ck114_4 : (w197).cell? ⟨w89.heap.size, 4, none⟩ = some (.int .i64 f.Fragment) := F208.out.cell 4
      have ck114_5 : (w197).cell? ⟨w89.heap.size, 5, none⟩ = some (.bool f.More) := F208.out.cell 5
      have ck114_6 : (w197).cell? ⟨w89.heap.size, 6, none⟩ = some (.bool f.Retry) := F208.out.cell 6
      have ck114_7 : (w197).cell? ⟨w89.heap.size, 7, none⟩ = some (.int .i64 f.Duration) := F208.out.cell 7
      have ck114_8 : (w197).cell? ⟨w89.heap.size, 8, none⟩ = some (.slice A90 n91 c92) := F208.out.cell 8
      go_wp2_with fail
      clear ck10_0 ck10_1 ck10_2 ck10_3 ck10_4 ck10_5 ck10_6 ck10_7 ck10_8 ck114_0 ck114_1 ck114_2 ck114_3 ck114_4 ck114_5 ck114_6 ck114_7 ck114_8
      (with_reducible refine (ux.markSeenFrameS 1 F203.out (by have h1 := sn.rowSen_bd x0; have h2 := (show (0:Int) ≤ 1 ∧ (1:Int) ≤ 4294967360 by omega); have h3 := S20.out; omega) S20.out).mono ?_)
      rintro e w209 hp
      obtain ⟨rfl, ho, hb⟩ := hp.parts
      clear hp
      obtain ⟨k1, hk9⟩ : ∃ k : Int, 1 + (ux.rowSen.tot x0 : Nat) = k := ⟨_, rfl⟩
      have Hk1 := Lib.hid hk9
      have Kk1 := Lib.hid (show 0 ≤ k1 ∧ k1 ≤ 1 + 4294967360 by have h1 := sn.rowSen_bd x0; have h2 := (show (0:Int) ≤ 1 ∧ (1:Int) ≤ 4294967360 by omega); have h3 := S20.out; omega)
      have ngk1 : ¬ k1 < 0 := by have := Kk1.out; omega
      (first | rw [hk9] | (change Code.wp _ _ _ _ _; rw [hk9]) | skip)
      clear hk9
      have F210 := Lib.hid ho
      clear ho
      have B211 := Lib.hid (B198.out.trans (ux.ks_bel hb (fun b hb => by have z0 := Z4.out; have z1 := Z6.out; have z2 := Z15.out; have z3 := Z26.out; have z4 := Z34.out; have z5 := Z46.out; have z6 := Z58.out; have z7 := Z70.out; have z8 := Z84.out; have z9 := Z97.out; have z10 := Z104.out; have z11 := Z106.out; have z12 := Z122.out; have z13 := Z132.out; have z14 := Z149.out; have z15 := Z160.out; have z16 := Z171.out; have z17 := Z188.out; have z18 := Z199.out; have zB := B198.out.size; have := F210.out.inn b hb; omega) B198.out.size))
      have Z212 := Lib.hid hb.size
      have F213 := Lib.hid (F200.out.ks hb (fun b h1 h2 h3 => by have z0 := Z4.out; have z1 := Z6.out; have z2 := Z15.out; have z3 := Z26.out; have z4 := Z34.out; have z5 := Z46.out; have z6 := Z58.out; have z7 := Z70.out; have z8 := Z84.out; have z9 := Z97.out; have z10 := Z104.out; have z11 := Z106.out; have z12 := Z122.out; have z13 := Z132.out; have z14 := Z149.out; have z15 := Z160.out; have z16 := Z171.out; have z17 := Z188.out; have z18 := Z199.out; have z19 := Z212.out; have q2 := F210.out.inn b h3; omega))
      have F214 := Lib.hid (F201.out.ks hb (fun b h1 h2 h3 => by have z0 := Z4.out; have z1 := Z6.out; have z2 := Z15.out; have z3 := Z26.out; have z4 := Z34.out; have z5 := Z46.out; have z6 := Z58.out; have z7 := Z70.out; have z8 := Z84.out; have z9 := Z97.out; have z10 := Z104.out; have z11 := Z106.out; have z12 := Z122.out; have z13 := Z132.out; have z14 := Z149.out; have z15 := Z160.out; have z16 := Z171.out; have z17 := Z188.out; have z18 := Z199.out; have z19 := Z212.out; have q2 := F210.out.inn b h3; omega))
      have F215 := Lib.hid (F202.out.ks hb (fun b h1 h2 => by have z0 := Z4.out; have z1 := Z6.out; have z2 := Z15.out; have z3 := Z26.out; have z4 := Z34.out; have z5 := Z46.out; have z6 := Z58.out; have z7 := Z70.out; have z8 := Z84.out; have z9 := Z97.out; have z10 := Z104.out; have z11 := Z106.out; have z12 := Z122.out; have z13 := Z132.out; have z14 := Z149.out; have z15 := Z160.out; have z16 := Z171.out; have z17 := Z188.out; have z18 := Z199.out; have z19 := Z212.out; have q1 := F202.out.inn b h1; have q2 := F210.out.inn b h2; omega))
      have F216 := Lib.hid (F204.out.ks hb (fun b h1 h2 => by have z0 := Z4.out; have z1 := Z6.out; have z2 := Z15.out; have z3 := Z26.out; have z4 := Z34.out; have z5 := Z46.out; have z6 := Z58.out; have z7 := Z70.out; have z8 := Z84.out; have z9 := Z97.out; have z10 := Z104.out; have z11 := Z106.out; have z12 := Z122.out; have z13 := Z132.out; have z14 := Z149.out; have z15 := Z160.out; have z16 := Z171.out; have z17 := Z188.out; have z18 := Z199.out; have z19 := Z212.out; have q1 := F204.out.inn b h1; have q2 := F210.out.inn b h2; omega))
      have F217 := Lib.hid (F205.out.ks hb (fun b h1 h2 => by have z0 := Z4.out; have z1 := Z6.out; have z2 := Z15.out; have z3 := Z26.out; have z4 := Z34.out; have z5 := Z46.out; have z6 := Z58.out; have z7 := Z70.out; have z8 := Z84.out; have z9 := Z97.out; have z10 := Z104.out; have z11 := Z106.out; have z12 := Z122.out; have z13 := Z132.out; have z14 := Z149.out; have z15 := Z160.out; have z16 := Z171.out; have z17 := Z188.out; have z18 := Z199.out; have z19 := Z212.out; have q1 := F205.out.inn b h1; have q2 := F210.out.inn b h2; omega))
      have F218 := Lib.hid (fr.bx_ks F207.out hb (fun h3 => by have z0 := Z4.out; have z1 := Z6.out; have z2 := Z15.out; have z3 := Z26.out; have z4 := Z34.out; have z5 := Z46.out; have z6 := Z58.out; have z7 := Z70.out; have z8 := Z84.out; have z9 := Z97.out; have z10 := Z104.out; have z11 := Z106.out; have z12 := Z122.out; have z13 := Z132.out; have z14 := Z149.out; have z15 := Z160.out; have z16 := Z171.out; have z17 := Z188.out; have z18 := Z199.out; have z19 := Z212.out; have q2 := F210.out.inn _ h3; omega))
      have F219 := Lib.hid (fr.bx_ks F208.out hb (fun h3 => by have z0 := Z4.out; have z1 := Z6.out; have z2 := Z15.out; have z3 := Z26.out; have z4 := Z34.out; have z5 := Z46.out; have z6 := Z58.out; have z7 := Z70.out; have z8 := Z84.out; have z9 := Z97.out; have z10 := Z104.out; have z11 := Z106.out; have z12 := Z122.out; have z13 := Z132.out; have z14 := Z149.out; have z15 := Z160.out; have z16 := Z171.out; have z17 := Z188.out; have z18 := Z199.out; have z19 := Z212.out; have q2 := F210.out.inn _ h3; omega))
      clear hb B198 F200 F201 F202 F204 F205 F207 F208
      clear F203
      clear F210
      have ck10_0 : (w209).cell? ⟨w.heap.size, 0, none⟩ = some (.int .i64 f.Kind) := F218.out.cell 0
      have ck10_1 : (w209).cell? ⟨w.heap.size, 1, none⟩ = some (.int .i64 f.From) := F218.out.cell 1
      have ck10_2 : (w209).cell? ⟨w.heap.size, 2, none⟩ = some (.int .i64 f.To) := F218.out.cell 2
      have ck10_3 : (w209).cell? ⟨w.heap.size, 3, none⟩ = some (.int .i64 f.Seq) := F218.out.cell 3
      have ck10_4 : (w209).cell? ⟨w.heap.size, 4, none⟩ = some (.int .i64 f.Fragment) := F218.out.cell 4
      have ck10_5 : (w209).cell? ⟨w.heap.size, 5, none⟩ = some (.bool f.More) := F218.out.cell 5
      have ck10_6 : (w209).cell? ⟨w.heap.size, 6, none⟩ = some (.bool f.Retry) := F218.out.cell 6
      have ck10_7 : (w209).cell? ⟨w.heap.size, 7, none⟩ = some (.int .i64 f.Duration) := F218.out.cell 7
      have ck10_8 : (w209).cell? ⟨w.heap.size, 8, none⟩ = some (.slice Af nf cf) := F218.out.cell 8
      have ck114_0 : (w209).cell? ⟨w89.heap.size, 0, none⟩ = some (.int .i64 f.Kind) := F219.out.cell 0
      have ck114_1 : (w209).cell? ⟨w89.heap.size, 1, none⟩ = some (.int .i64 f.From) := F219.out.cell 1
      have ck114_2 : (w209).cell? ⟨w89.heap.size, 2, none⟩ = some (.int .i64 f.To) := F219.out.cell 2
      have ck114_3 : (w209).cell? ⟨w89.heap.size, 3, none⟩ = some (.int .i64 f.Seq) := F219.out.cell 3
      have ck114_4 : (w209).cell? ⟨w89.heap.size, 4, none⟩ = some (.int .i64 f.Fragment) := F219.out.cell 4
      have ck114_5 : (w209).cell? ⟨w89.heap.size, 5, none⟩ = some (.bool f.More) := F219.out.cell 5
      have ck114_6 : (w209).cell? ⟨w89.heap.size, 6, none⟩ = some (.bool f.Retry) := F219.out.cell 6
      have ck114_7 : (w209).cell? ⟨w89.heap.size, 7, none⟩ = some (.int .i64 f.Duration) := F219.out.cell 7
      have ck114_8 : (w209).cell? ⟨w89.heap.size, 8, none⟩ = some (.slice A90 n91 c92) := F219.out.cell 8
      go_wp2_with fail
      clear ck10_0 ck10_1 ck10_2 ck10_3 ck10_4 ck10_5 ck10_6 ck10_7 ck10_8 ck114_0 ck114_1 ck114_2 ck114_3 ck114_4 ck114_5 ck114_6 ck114_7 ck114_8
      (with_reducible refine (ux.markMacFrame k1 F216.out (by have h1 := fr.fra_bd f; have h2 := Kk1.out; have h3 := S31.out; omega) S31.out).mono ?_)
      rintro e w220 hp
      obtain ⟨rfl, ho, hb⟩ := hp.parts
      clear hp
      obtain ⟨k2, hk9⟩ : ∃ k : Int, k1 + (ux.fra_tv f : Nat) = k := ⟨_, rfl⟩
      have Hk2 := Lib.hid hk9
      have Kk2 := Lib.hid (show 0 ≤ k2 ∧ k2 ≤ k1 + 4294967360 by have h1 := fr.fra_bd f; have h2 := Kk1.out; have h3 := S31.out; omega)
      have ngk2 : ¬ k2 < 0 := by have := Kk2.out; omega
      (first | rw [hk9] | (change Code.wp _ _ _ _ _; rw [hk9]) | skip)
      clear hk9
      have F221 := Lib.hid ho
      clear ho
      have B222 := Lib.hid (B211.out.trans (ux.ks_bel hb (fun b hb => by have z0 := Z4.out; have z1 := Z6.out; have z2 := Z15.out; have z3 := Z26.out; have z4 := Z34.out; have z5 := Z46.out; have z6 := Z58.out; have z7 := Z70.out; have z8 := Z84.out; have z9 := Z97.out; have z10 := Z104.out; have z11 := Z106.out; have z12 := Z122.out; have z13 := Z132.out; have z14 := Z149.out; have z15 := Z160.out; have z16 := Z171.out; have z17 := Z188.out; have z18 := Z199.out; have z19 := Z212.out; have zB := B211.out.size; have := F221.out.inn b hb; omega) B211.out.size))
      have Z223 := Lib.hid hb.size
      have F224 := Lib.hid (F213.out.ks hb (fun b h1 h2 h3 => by have z0 := Z4.out; have z1 := Z6.out; have z2 := Z15.out; have z3 := Z26.out; have z4 := Z34.out; have z5 := Z46.out; have z6 := Z58.out; have z7 := Z70.out; have z8 := Z84.out; have z9 := Z97.out; have z10 := Z104.out; have z11 := Z106.out; have z12 := Z122.out; have z13 := Z132.out; have z14 := Z149.out; have z15 := Z160.out; have z16 := Z171.out; have z17 := Z188.out; have z18 := Z199.out; have z19 := Z212.out; have z20 := Z223.out; have q2 := F221.out.inn b h3; omega))
      have F225 := Lib.hid (F214.out.ks hb (fun b h1 h2 h3 => by have z0 := Z4.out; have z1 := Z6.out; have z2 := Z15.out; have z3 := Z26.out; have z4 := Z34.out; have z5 := Z46.out; have z6 := Z58.out; have z7 := Z70.out; have z8 := Z84.out; have z9 := Z97.out; have z10 := Z104.out; have z11 := Z106.out; have z12 := Z122.out; have z13 := Z132.out; have z14 := Z149.out; have z15 := Z160.out; have z16 := Z171.out; have z17 := Z188.out; have z18 := Z199.out; have z19 := Z212.out; have z20 := Z223.out; have q2 := F221.out.inn b h3; omega))
      have F226 := Lib.hid (F215.out.ks hb (fun b h1 h2 => by have z0 := Z4.out; have z1 := Z6.out; have z2 := Z15.out; have z3 := Z26.out; have z4 := Z34.out; have z5 := Z46.out; have z6 := Z58.out; have z7 := Z70.out; have z8 := Z84.out; have z9 := Z97.out; have z10 := Z104.out; have z11 := Z106.out; have z12 := Z122.out; have z13 := Z132.out; have z14 := Z149.out; have z15 := Z160.out; have z16 := Z171.out; have z17 := Z188.out; have z18 := Z199.out; have z19 := Z212.out; have z20 := Z223.out; have q1 := F215.out.inn b h1; have q2 := F221.out.inn b h2; omega))
      have F227 := Lib.hid (F217.out.ks hb (fun b h1 h2 => by have z0 := Z4.out; have z1 := Z6.out; have z2 := Z15.out; have z3 := Z26.out; have z4 := Z34.out; have z5 := Z46.out; have z6 := Z58.out; have z7 := Z70.out; have z8 := Z84.out; have z9 := Z97.out; have z10 := Z104.out; have z11 := Z106.out; have z12 := Z122.out; have z13 := Z132.out; have z14 := Z149.out; have z15 := Z160.out; have z16 := Z171.out; have z17 := Z188.out; have z18 := Z199.out; have z19 := Z212.out; have z20 := Z223.out; have q1 := F217.out.inn b h1; have q2 := F221.out.inn b h2; omega))
      have F228 := Lib.hid (fr.bx_ks F218.out hb (fun h3 => by have z0 := Z4.out; have z1 := Z6.out; have z2 := Z15.out; have z3 := Z26.out; have z4 := Z34.out; have z5 := Z46.out; have z6 := Z58.out; have z7 := Z70.out; have z8 := Z84.out; have z9 := Z97.out; have z10 := Z104.out; have z11 := Z106.out; have z12 := Z122.out; have z13 := Z132.out; have z14 := Z149.out; have z15 := Z160.out; have z16 := Z171.out; have z17 := Z188.out; have z18 := Z199.out; have z19 := Z212.out; have z20 := Z223.out; have q2 := F221.out.inn _ h3; omega))
      have F229 := Lib.hid (fr.bx_ks F219.out hb (fun h3 => by have z0 := Z4.out; have z1 := Z6.out; have z2 := Z15.out; have z3 := Z26.out; have z4 := Z34.out; have z5 := Z46.out; have z6 := Z58.out; have z7 := Z70.out; have z8 := Z84.out; have z9 := Z97.out; have z10 := Z104.out; have z11 := Z106.out; have z12 := Z122.out; have z13 := Z132.out; have z14 := Z149.out; have z15 := Z160.out; have z16 := Z171.out; have z17 := Z188.out; have z18 := Z199.out; have z19 := Z212.out; have z20 := Z223.out; have q2 := F221.out.inn _ h3; omega))
      clear hb B211 F213 F214 F215 F217 F218 F219
      clear F216
      clear F229
      clear F221
      have ck10_0 : (w220).cell? ⟨w.heap.size, 0, none⟩ = some (.int .i64 f.Kind) := F228.out.cell 0
      have ck10_1 : (w220).cell? ⟨w.heap.size, 1, none⟩ = some (.int .i64 f.From) := F228.out.cell 1
      have ck10_2 : (w220).cell? ⟨w.heap.size, 2, none⟩ = some (.int .i64 f.To) := F228.out.cell 2
      have ck10_3 : (w220).cell? ⟨w.heap.size, 3, none⟩ = some (.int .i64 f.Seq) := F228.out.cell 3
      have ck10_4 : (w220).cell? ⟨w.heap.size, 4, none⟩ = some (.int .i64 f.Fragment) := F228.out.cell 4
      have ck10_5 : (w220).cell? ⟨w.heap.size, 5, none⟩ = some (.bool f.More) := F228.out.cell 5
      have ck10_6 : (w220).cell? ⟨w.heap.size, 6, none⟩ = some (.bool f.Retry) := F228.out.cell 6
      have ck10_7 : (w220).cell? ⟨w.heap.size, 7, none⟩ = some (.int .i64 f.Duration) := F228.out.cell 7
      have ck10_8 : (w220).cell? ⟨w.heap.size, 8, none⟩ = some (.slice Af nf cf) := F228.out.cell 8
      go_wp2_with fail
      clear ck10_0 ck10_1 ck10_2 ck10_3 ck10_4 ck10_5 ck10_6 ck10_7 ck10_8
      (with_reducible refine (ux.eqSeenFrameS F227.out.rd F226.out.rd).mono ?_)
      rintro e w230 hp
      obtain ⟨rfl, hb⟩ := bx.b_parts rfl hp
      clear hp
      have B231 := Lib.hid (B222.out.trans (hb.mono B222.out.size))
      have Z232 := Lib.hid hb.size
      have F233 := Lib.hid (F224.out.below hb)
      have F234 := Lib.hid (F225.out.below hb)
      have F235 := Lib.hid (F226.out.below hb)
      have F236 := Lib.hid (F227.out.below hb)
      have F237 := Lib.hid (F228.out.below hb)
      clear hb B222 F224 F225 F226 F227 F228
      have ck10_0 : (w230).cell? ⟨w.heap.size, 0, none⟩ = some (.int .i64 f.Kind) := F237.out.cell 0
      have ck10_1 : (w230).cell? ⟨w.heap.size, 1, none⟩ = some (.int .i64 f.From) := F237.out.cell 1
      have ck10_2 : (w230).cell? ⟨w.heap.size, 2, none⟩ = some (.int .i64 f.To) := F237.out.cell 2
      have ck10_3 : (w230).cell? ⟨w.heap.size, 3, none⟩ = some (.int .i64 f.Seq) := F237.out.cell 3
      have ck10_4 : (w230).cell? ⟨w.heap.size, 4, none⟩ = some (.int .i64 f.Fragment) := F237.out.cell 4
      have ck10_5 : (w230).cell? ⟨w.heap.size, 5, none⟩ = some (.bool f.More) := F237.out.cell 5
      have ck10_6 : (w230).cell? ⟨w.heap.size, 6, none⟩ = some (.bool f.Retry) := F237.out.cell 6
      have ck10_7 : (w230).cell? ⟨w.heap.size, 7, none⟩ = some (.int .i64 f.Duration) := F237.out.cell 7
      have ck10_8 : (w230).cell? ⟨w.heap.size, 8, none⟩ = some (.slice Af nf cf) := F237.out.cell 8
      go_wp2_with fail
      clear ck10_0 ck10_1 ck10_2 ck10_3 ck10_4 ck10_5 ck10_6 ck10_7 ck10_8
      (with_reducible refine (ux.markSeenFrameS 1 F236.out (by have h1 := sn.rowSen_bd l9; have h2 := (show (0:Int) ≤ 1 ∧ (1:Int) ≤ 4294967360 by omega); have h3 := SL.out; omega) SL.out).mono ?_)
      rintro e w238 hp
      obtain ⟨rfl, ho, hb⟩ := hp.parts
      clear hp
      obtain ⟨m1, hk9⟩ : ∃ k : Int, 1 + (ux.rowSen.tot l9 : Nat) = k := ⟨_, rfl⟩
      have Hm1 := Lib.hid hk9
      have Km1 := Lib.hid (show 0 ≤ m1 ∧ m1 ≤ 1 + 4294967360 by have h1 := sn.rowSen_bd l9; have h2 := (show (0:Int) ≤ 1 ∧ (1:Int) ≤ 4294967360 by omega); have h3 := SL.out; omega)
      have ngm1 : ¬ m1 < 0 := by have := Km1.out; omega
      (first | rw [hk9] | (change Code.wp _ _ _ _ _; rw [hk9]) | skip)
      clear hk9
      have F239 := Lib.hid ho
      clear ho
      have B240 := Lib.hid (B231.out.trans (ux.ks_bel hb (fun b hb => by have z0 := Z4.out; have z1 := Z6.out; have z2 := Z15.out; have z3 := Z26.out; have z4 := Z34.out; have z5 := Z46.out; have z6 := Z58.out; have z7 := Z70.out; have z8 := Z84.out; have z9 := Z97.out; have z10 := Z104.out; have z11 := Z106.out; have z12 := Z122.out; have z13 := Z132.out; have z14 := Z149.out; have z15 := Z160.out; have z16 := Z171.out; have z17 := Z188.out; have z18 := Z199.out; have z19 := Z212.out; have z20 := Z223.out; have z21 := Z232.out; have zB := B231.out.size; have := F239.out.inn b hb; omega) B231.out.size))
      have Z241 := Lib.hid hb.size
      have F242 := Lib.hid (F233.out.ks hb (fun b h1 h2 h3 => by have z0 := Z4.out; have z1 := Z6.out; have z2 := Z15.out; have z3 := Z26.out; have z4 := Z34.out; have z5 := Z46.out; have z6 := Z58.out; have z7 := Z70.out; have z8 := Z84.out; have z9 := Z97.out; have z10 := Z104.out; have z11 := Z106.out; have z12 := Z122.out; have z13 := Z132.out; have z14 := Z149.out; have z15 := Z160.out; have z16 := Z171.out; have z17 := Z188.out; have z18 := Z199.out; have z19 := Z212.out; have z20 := Z223.out; have z21 := Z232.out; have z22 := Z241.out; have q2 := F239.out.inn b h3; omega))
      have F243 := Lib.hid (F234.out.ks hb (fun b h1 h2 h3 => by have z0 := Z4.out; have z1 := Z6.out; have z2 := Z15.out; have z3 := Z26.out; have z4 := Z34.out; have z5 := Z46.out; have z6 := Z58.out; have z7 := Z70.out; have z8 := Z84.out; have z9 := Z97.out; have z10 := Z104.out; have z11 := Z106.out; have z12 := Z122.out; have z13 := Z132.out; have z14 := Z149.out; have z15 := Z160.out; have z16 := Z171.out; have z17 := Z188.out; have z18 := Z199.out; have z19 := Z212.out; have z20 := Z223.out; have z21 := Z232.out; have z22 := Z241.out; have q2 := F239.out.inn b h3; omega))
      have F244 := Lib.hid (F235.out.ks hb (fun b h1 h2 => by have z0 := Z4.out; have z1 := Z6.out; have z2 := Z15.out; have z3 := Z26.out; have z4 := Z34.out; have z5 := Z46.out; have z6 := Z58.out; have z7 := Z70.out; have z8 := Z84.out; have z9 := Z97.out; have z10 := Z104.out; have z11 := Z106.out; have z12 := Z122.out; have z13 := Z132.out; have z14 := Z149.out; have z15 := Z160.out; have z16 := Z171.out; have z17 := Z188.out; have z18 := Z199.out; have z19 := Z212.out; have z20 := Z223.out; have z21 := Z232.out; have z22 := Z241.out; have q1 := F235.out.inn b h1; have q2 := F239.out.inn b h2; omega))
      have F245 := Lib.hid (fr.bx_ks F237.out hb (fun h3 => by have z0 := Z4.out; have z1 := Z6.out; have z2 := Z15.out; have z3 := Z26.out; have z4 := Z34.out; have z5 := Z46.out; have z6 := Z58.out; have z7 := Z70.out; have z8 := Z84.out; have z9 := Z97.out; have z10 := Z104.out; have z11 := Z106.out; have z12 := Z122.out; have z13 := Z132.out; have z14 := Z149.out; have z15 := Z160.out; have z16 := Z171.out; have z17 := Z188.out; have z18 := Z199.out; have z19 := Z212.out; have z20 := Z223.out; have z21 := Z232.out; have z22 := Z241.out; have q2 := F239.out.inn _ h3; omega))
      clear hb B231 F233 F234 F235 F237
      clear F236
      have ck10_0 : (w238).cell? ⟨w.heap.size, 0, none⟩ = some (.int .i64 f.Kind) := F245.out.cell 0
      have ck10_1 : (w238).cell? ⟨w.heap.size, 1, none⟩ = some (.int .i64 f.From) := F245.out.cell 1
      have ck10_2 : (w238).cell? ⟨w.heap.size, 2, none⟩ = some (.int .i64 f.To) := F245.out.cell 2
      have ck10_3 : (w238).cell? ⟨w.heap.size, 3, none⟩ = some (.int .i64 f.Seq) := F245.out.cell 3
      have ck10_4 : (w238).cell? ⟨w.heap.size, 4, none⟩ = some (.int .i64 f.Fragment) := F245.out.cell 4
      have ck10_5 : (w238).cell? ⟨w.heap.size, 5, none⟩ = some (.bool f.More) := F245.out.cell 5
      have ck10_6 : (w238).cell? ⟨w.heap.size, 6, none⟩ = some (.bool f.Retry) := F245.out.cell 6
      have ck10_7 : (w238).cell? ⟨w.heap.size, 7, none⟩ = some (.int .i64 f.Duration) := F245.out.cell 7
      have ck10_8 : (w238).cell? ⟨w.heap.size, 8, none⟩ = some (.slice Af nf cf) := F245.out.cell 8
      go_wp2_with fail
      clear ck10_0 ck10_1 ck10_2 ck10_3 ck10_4 ck10_5 ck10_6 ck10_7 ck10_8
      (with_reducible refine (ux.heldSeenFrameS 1 F239.out.rd (by have h1 := sn.rowSen_bd l9; have h2 := (show (0:Int) ≤ 1 ∧ (1:Int) ≤ 4294967360 by omega); have h3 := SL.out; omega) SL.out).mono ?_)
      rintro e w246 hp
      obtain ⟨rfl, hb⟩ := bx.n_parts Hm1.out hp
      clear hp
      have B247 := Lib.hid (B240.out.trans (hb.mono B240.out.size))
      have Z248 := Lib.hid hb.size
      have F249 := Lib.hid (F242.out.below hb)
      have F250 := Lib.hid (F243.out.below hb)
      have F251 := Lib.hid (F244.out.below hb)
      have F252 := Lib.hid (F239.out.below hb)
      have F253 := Lib.hid (F245.out.below hb)
      clear hb B240 F242 F243 F244 F239 F245
      have ck10_0 : (w246).cell? ⟨w.heap.size, 0, none⟩ = some (.int .i64 f.Kind) := F253.out.cell 0
      have ck10_1 : (w246).cell? ⟨w.heap.size, 1, none⟩ = some (.int .i64 f.From) := F253.out.cell 1
      have ck10_2 : (w246).cell? ⟨w.heap.size, 2, none⟩ = some (.int .i64 f.To) := F253.out.cell 2
      have ck10_3 : (w246).cell? ⟨w.heap.size, 3, none⟩ = some (.int .i64 f.Seq) := F253.out.cell 3
      have ck10_4 : (w246).cell? ⟨w.heap.size, 4, none⟩ = some (.int .i64 f.Fragment) := F253.out.cell 4
      have ck10_5 : (w246).cell? ⟨w.heap.size, 5, none⟩ = some (.bool f.More) := F253.out.cell 5
      have ck10_6 : (w246).cell? ⟨w.heap.size, 6, none⟩ = some (.bool f.Retry) := F253.out.cell 6
      have ck10_7 : (w246).cell? ⟨w.heap.size, 7, none⟩ = some (.int .i64 f.Duration) := F253.out.cell 7
      have ck10_8 : (w246).cell? ⟨w.heap.size, 8, none⟩ = some (.slice Af nf cf) := F253.out.cell 8
      go_wp2_with fail
      clear ck10_0 ck10_1 ck10_2 ck10_3 ck10_4 ck10_5 ck10_6 ck10_7 ck10_8
      have hb : Below w246.heap.size w246 w246.drew := own.below_drew (Below.refl _ _)
      have B254 := Lib.hid (B247.out.trans (hb.mono B247.out.size))
      have Z255 := Lib.hid hb.size
      have F256 := Lib.hid (F249.out.below hb)
      have F257 := Lib.hid (F250.out.below hb)
      have F258 := Lib.hid (F251.out.below hb)
      have F259 := Lib.hid (F252.out.below hb)
      have F260 := Lib.hid (F253.out.below hb)
      clear hb B247 F249 F250 F251 F252 F253
      have cak10_0 : (w246.drew).cell? ⟨w.heap.size, 0, none⟩ = some (.int .i64 f.Kind) := F260.out.cell 0
      have cak10_1 : (w246.drew).cell? ⟨w.heap.size, 1, none⟩ = some (.int .i64 f.From) := F260.out.cell 1
      have cak10_2 : (w246.drew).cell? ⟨w.heap.size, 2, none⟩ = some (.int .i64 f.To) := F260.out.cell 2
      have cak10_3 : (w246.drew).cell? ⟨w.heap.size, 3, none⟩ = some (.int .i64 f.Seq) := F260.out.cell 3
      have cak10_4 : (w246.drew).cell? ⟨w.heap.size, 4, none⟩ = some (.int .i64 f.Fragment) := F260.out.cell 4
      have cak10_5 : (w246.drew).cell? ⟨w.heap.size, 5, none⟩ = some (.bool f.More) := F260.out.cell 5
      have cak10_6 : (w246.drew).cell? ⟨w.heap.size, 6, none⟩ = some (.bool f.Retry) := F260.out.cell 6
      have cak10_7 : (w246.drew).cell? ⟨w.heap.size, 7, none⟩ = some (.int .i64 f.Duration) := F260.out.cell 7
      have cak10_8 : (w246.drew).cell? ⟨w.heap.size, 8, none⟩ = some (.slice Af nf cf) := F260.out.cell 8
      go_region_held3 (fun w' => w'.cell? ⟨w.heap.size, 0, none⟩ = some (.int .i64 f.Kind) ∧ w'.cell? ⟨w.heap.size, 1, none⟩ = some (.int .i64 f.From) ∧ w'.cell? ⟨w.heap.size, 2, none⟩ = some (.int .i64 f.To) ∧ w'.cell? ⟨w.heap.size, 3, none⟩ = some (.int .i64 f.Seq) ∧ w'.cell? ⟨w.heap.size, 4, none⟩ = some (.int .i64 f.Fragment) ∧ w'.cell? ⟨w.heap.size, 5, none⟩ = some (.bool f.More) ∧ w'.cell? ⟨w.heap.size, 6, none⟩ = some (.bool f.Retry) ∧ w'.cell? ⟨w.heap.size, 7, none⟩ = some (.int .i64 f.Duration) ∧ w'.cell? ⟨w.heap.size, 8, none⟩ = some (.slice Af nf cf)) (first | (with_reducible exact ⟨cak10_0, cak10_1, cak10_2, cak10_3, cak10_4, cak10_5, cak10_6, cak10_7, cak10_8⟩) | (with_reducible exact ⟨cbk10_0, cbk10_1, cbk10_2, cbk10_3, cbk10_4, cbk10_5, cbk10_6, cbk10_7, cbk10_8⟩) | (with_reducible exact ⟨cdk10_0, cdk10_1, cdk10_2, cdk10_3, cdk10_4, cdk10_5, cdk10_6, cdk10_7, cdk10_8⟩) | (with_reducible exact ⟨cek10_0, cek10_1, cek10_2, cek10_3, cek10_4, cek10_5, cek10_6, cek10_7, cek10_8⟩))
        (first
        | (go_at_call 34; (with_reducible refine (ux.toSeenFrameS F256.out S20.out).mono ?_); rintro e w261 hp; obtain ⟨v266, fp265, rfl, ho, hb⟩ := hp.parts; clear hp; obtain ⟨A262, n263, c264, rfl⟩ := ux.rowSen_slo ho.1; have F267 := Lib.hid ho; clear ho; have B268 := Lib.hid (B254.out.trans (hb.mono B254.out.size)); have Z269 := Lib.hid hb.size; have F270 := Lib.hid (F256.out.below hb); have F271 := Lib.hid (F257.out.below hb); have F272 := Lib.hid (F258.out.below hb); have F273 := Lib.hid (F259.out.below hb); have F274 := Lib.hid (F260.out.below hb); clear hb B254 F256 F257 F258 F259 F260; have cbk10_0 : (w261).cell? ⟨w.heap.size, 0, none⟩ = some (.int .i64 f.Kind) := F274.out.cell 0; have cbk10_1 : (w261).cell? ⟨w.heap.size, 1, none⟩ = some (.int .i64 f.From) := F274.out.cell 1; have cbk10_2 : (w261).cell? ⟨w.heap.size, 2, none⟩ = some (.int .i64 f.To) := F274.out.cell 2; have cbk10_3 : (w261).cell? ⟨w.heap.size, 3, none⟩ = some (.int .i64 f.Seq) := F274.out.cell 3; have cbk10_4 : (w261).cell? ⟨w.heap.size, 4, none⟩ = some (.int .i64 f.Fragment) := F274.out.cell 4; have cbk10_5 : (w261).cell? ⟨w.heap.size, 5, none⟩ = some (.bool f.More) := F274.out.cell 5; have cbk10_6 : (w261).cell? ⟨w.heap.size, 6, none⟩ = some (.bool f.Retry) := F274.out.cell 6; have cbk10_7 : (w261).cell? ⟨w.heap.size, 7, none⟩ = some (.int .i64 f.Duration) := F274.out.cell 7; have cbk10_8 : (w261).cell? ⟨w.heap.size, 8, none⟩ = some (.slice Af nf cf) := F274.out.cell 8)
        | (go_at_call 37; (with_reducible refine (ux.toMacFrame F271.out S31.out).mono ?_); rintro e w275 hp; obtain ⟨v280, fp279, rfl, ho, hb⟩ := hp.parts; clear hp; obtain ⟨A276, n277, c278, f9, rfl, _, _, _⟩ := ux.fra_o ho; have F281 := Lib.hid ho; clear ho; have B282 := Lib.hid (B268.out.trans (hb.mono B268.out.size)); have Z283 := Lib.hid hb.size; have F284 := Lib.hid (F270.out.below hb); have F285 := Lib.hid (F271.out.below hb); have F286 := Lib.hid (F272.out.below hb); have F287 := Lib.hid (F273.out.below hb); have F288 := Lib.hid (F267.out.below hb); have F289 := Lib.hid (F274.out.below hb); clear hb B268 F270 F271 F272 F273 F267 F274; have cdk10_0 : (w275).cell? ⟨w.heap.size, 0, none⟩ = some (.int .i64 f.Kind) := F289.out.cell 0; have cdk10_1 : (w275).cell? ⟨w.heap.size, 1, none⟩ = some (.int .i64 f.From) := F289.out.cell 1; have cdk10_2 : (w275).cell? ⟨w.heap.size, 2, none⟩ = some (.int .i64 f.To) := F289.out.cell 2; have cdk10_3 : (w275).cell? ⟨w.heap.size, 3, none⟩ = some (.int .i64 f.Seq) := F289.out.cell 3; have cdk10_4 : (w275).cell? ⟨w.heap.size, 4, none⟩ = some (.int .i64 f.Fragment) := F289.out.cell 4; have cdk10_5 : (w275).cell? ⟨w.heap.size, 5, none⟩ = some (.bool f.More) := F289.out.cell 5; have cdk10_6 : (w275).cell? ⟨w.heap.size, 6, none⟩ = some (.bool f.Retry) := F289.out.cell 6; have cdk10_7 : (w275).cell? ⟨w.heap.size, 7, none⟩ = some (.int .i64 f.Duration) := F289.out.cell 7; have cdk10_8 : (w275).cell? ⟨w.heap.size, 8, none⟩ = some (.slice Af nf cf) := F289.out.cell 8)
        | (go_at_call 24; (with_reducible refine (HX.out ▸ sn.implAc x0 A262 n263 c264 _ _ _ (sn.sen_rq F288.out.rd) (by have h1 := (sn.sen_rq F288.out.rd).len; have h2 := HL0.out; have h3 := HN0.out; omega) f k A276 n277 c278).mono ?_); rintro e w290 hp; obtain ⟨A291, n292, c293, rfl, ho, hb⟩ := sn.ac_out hp; clear hp; obtain ⟨fp294, ho2⟩ := sn.sen_oo ho; clear ho; have F295 := Lib.hid ho2; clear ho2; have B296 := Lib.hid (B282.out.trans (hb.mono B282.out.size)); have Z297 := Lib.hid hb.size; have F298 := Lib.hid (F284.out.below hb); have F299 := Lib.hid (F285.out.below hb); have F300 := Lib.hid (F286.out.below hb); have F301 := Lib.hid (F287.out.below hb); have F302 := Lib.hid (F288.out.below hb); have F303 := Lib.hid (F281.out.below hb); have F304 := Lib.hid (F289.out.below hb); clear hb B282 F284 F285 F286 F287 F288 F281 F289; have cek10_0 : (w290).cell? ⟨w.heap.size, 0, none⟩ = some (.int .i64 f.Kind) := F304.out.cell 0; have cek10_1 : (w290).cell? ⟨w.heap.size, 1, none⟩ = some (.int .i64 f.From) := F304.out.cell 1; have cek10_2 : (w290).cell? ⟨w.heap.size, 2, none⟩ = some (.int .i64 f.To) := F304.out.cell 2; have cek10_3 : (w290).cell? ⟨w.heap.size, 3, none⟩ = some (.int .i64 f.Seq) := F304.out.cell 3; have cek10_4 : (w290).cell? ⟨w.heap.size, 4, none⟩ = some (.int .i64 f.Fragment) := F304.out.cell 4; have cek10_5 : (w290).cell? ⟨w.heap.size, 5, none⟩ = some (.bool f.More) := F304.out.cell 5; have cek10_6 : (w290).cell? ⟨w.heap.size, 6, none⟩ = some (.bool f.Retry) := F304.out.cell 6; have cek10_7 : (w290).cell? ⟨w.heap.size, 7, none⟩ = some (.int .i64 f.Duration) := F304.out.cell 7; have cek10_8 : (w290).cell? ⟨w.heap.size, 8, none⟩ = some (.slice Af nf cf) := F304.out.cell 8))
      clear cak10_0 cak10_1 cak10_2 cak10_3 cak10_4 cak10_5 cak10_6 cak10_7 cak10_8 cbk10_0 cbk10_1 cbk10_2 cbk10_3 cbk10_4 cbk10_5 cbk10_6 cbk10_7 cbk10_8 cdk10_0 cdk10_1 cdk10_2 cdk10_3 cdk10_4 cdk10_5 cdk10_6 cdk10_7 cdk10_8 cek10_0 cek10_1 cek10_2 cek10_3 cek10_4 cek10_5 cek10_6 cek10_7 cek10_8
      clear F302
      clear F303
      have ck10_0 : (w290).cell? ⟨w.heap.size, 0, none⟩ = some (.int .i64 f.Kind) := F304.out.cell 0
      have ck10_1 : (w290).cell? ⟨w.heap.size, 1, none⟩ = some (.int .i64 f.From) := F304.out.cell 1
      have ck10_2 : (w290).cell? ⟨w.heap.size, 2, none⟩ = some (.int .i64 f.To) := F304.out.cell 2
      have ck10_3 : (w290).cell? ⟨w.heap.size, 3, none⟩ = some (.int .i64 f.Seq) := F304.out.cell 3
      have ck10_4 : (w290).cell? ⟨w.heap.size, 4, none⟩ = some (.int .i64 f.Fragment) := F304.out.cell 4
      have ck10_5 : (w290).cell? ⟨w.heap.size, 5, none⟩ = some (.bool f.More) := F304.out.cell 5
      have ck10_6 : (w290).cell? ⟨w.heap.size, 6, none⟩ = some (.bool f.Retry) := F304.out.cell 6
      have ck10_7 : (w290).cell? ⟨w.heap.size, 7, none⟩ = some (.int .i64 f.Duration) := F304.out.cell 7
      have ck10_8 : (w290).cell? ⟨w.heap.size, 8, none⟩ = some (.slice Af nf cf) := F304.out.cell 8
      go_wp2_with fail
      clear ck10_0 ck10_1 ck10_2 ck10_3 ck10_4 ck10_5 ck10_6 ck10_7 ck10_8
      (with_reducible refine (ux.eqSeenFrameS F295.out.rd F300.out.rd).mono ?_)
      rintro e w305 hp
      obtain ⟨rfl, hb⟩ := bx.b_parts rfl hp
      clear hp
      have B306 := Lib.hid (B296.out.trans (hb.mono B296.out.size))
      have Z307 := Lib.hid hb.size
      have F308 := Lib.hid (F298.out.below hb)
      have F309 := Lib.hid (F299.out.below hb)
      have F310 := Lib.hid (F300.out.below hb)
      have F311 := Lib.hid (F301.out.below hb)
      have F312 := Lib.hid (F295.out.below hb)
      have F313 := Lib.hid (F304.out.below hb)
      clear hb B296 F298 F299 F300 F301 F295 F304
      clear F312
      clear F310
      have ck10_0 : (w305).cell? ⟨w.heap.size, 0, none⟩ = some (.int .i64 f.Kind) := F313.out.cell 0
      have ck10_1 : (w305).cell? ⟨w.heap.size, 1, none⟩ = some (.int .i64 f.From) := F313.out.cell 1
      have ck10_2 : (w305).cell? ⟨w.heap.size, 2, none⟩ = some (.int .i64 f.To) := F313.out.cell 2
      have ck10_3 : (w305).cell? ⟨w.heap.size, 3, none⟩ = some (.int .i64 f.Seq) := F313.out.cell 3
      have ck10_4 : (w305).cell? ⟨w.heap.size, 4, none⟩ = some (.int .i64 f.Fragment) := F313.out.cell 4
      have ck10_5 : (w305).cell? ⟨w.heap.size, 5, none⟩ = some (.bool f.More) := F313.out.cell 5
      have ck10_6 : (w305).cell? ⟨w.heap.size, 6, none⟩ = some (.bool f.Retry) := F313.out.cell 6
      have ck10_7 : (w305).cell? ⟨w.heap.size, 7, none⟩ = some (.int .i64 f.Duration) := F313.out.cell 7
      have ck10_8 : (w305).cell? ⟨w.heap.size, 8, none⟩ = some (.slice Af nf cf) := F313.out.cell 8
      go_wp2_with fail
      clear ck10_0 ck10_1 ck10_2 ck10_3 ck10_4 ck10_5 ck10_6 ck10_7 ck10_8
      (with_reducible refine (ux.heldSeenFrameS 1 F311.out.rd (by have h1 := sn.rowSen_bd l9; have h2 := (show (0:Int) ≤ 1 ∧ (1:Int) ≤ 4294967360 by omega); have h3 := SL.out; omega) SL.out).mono ?_)
      rintro e w314 hp
      obtain ⟨rfl, hb⟩ := bx.n_parts Hm1.out hp
      clear hp
      have B315 := Lib.hid (B306.out.trans (hb.mono B306.out.size))
      have Z316 := Lib.hid hb.size
      have F317 := Lib.hid (F308.out.below hb)
      have F318 := Lib.hid (F309.out.below hb)
      have F319 := Lib.hid (F311.out.below hb)
      have F320 := Lib.hid (F313.out.below hb)
      clear hb B306 F308 F309 F311 F313
      have ck10_0 : (w314).cell? ⟨w.heap.size, 0, none⟩ = some (.int .i64 f.Kind) := F320.out.cell 0
      have ck10_1 : (w314).cell? ⟨w.heap.size, 1, none⟩ = some (.int .i64 f.From) := F320.out.cell 1
      have ck10_2 : (w314).cell? ⟨w.heap.size, 2, none⟩ = some (.int .i64 f.To) := F320.out.cell 2
      have ck10_3 : (w314).cell? ⟨w.heap.size, 3, none⟩ = some (.int .i64 f.Seq) := F320.out.cell 3
      have ck10_4 : (w314).cell? ⟨w.heap.size, 4, none⟩ = some (.int .i64 f.Fragment) := F320.out.cell 4
      have ck10_5 : (w314).cell? ⟨w.heap.size, 5, none⟩ = some (.bool f.More) := F320.out.cell 5
      have ck10_6 : (w314).cell? ⟨w.heap.size, 6, none⟩ = some (.bool f.Retry) := F320.out.cell 6
      have ck10_7 : (w314).cell? ⟨w.heap.size, 7, none⟩ = some (.int .i64 f.Duration) := F320.out.cell 7
      have ck10_8 : (w314).cell? ⟨w.heap.size, 8, none⟩ = some (.slice Af nf cf) := F320.out.cell 8
      go_wp2_with fail
      clear ck10_0 ck10_1 ck10_2 ck10_3 ck10_4 ck10_5 ck10_6 ck10_7 ck10_8
      go_ret
      exact ⟨rfl, B315.out⟩
theorem walkA (x0 : List ux.Sen) (A0 : Option Addr) (n0 c0 : Nat) (f0 f1 f2 f3 f4 : Int) (f5 f6 : Bool) (f7 : Int) (Af : Option Addr) (nf cf : Nat) (zf : List Int) (k : Int)  (w : World) (h0 : mrw.Rq sn.senS w 0 w.heap.size A0 n0 c0 x0) (rowf : kit.IsRow .u8 w Af nf cf zf)  :
    Calls Try.prog 9 #[.slice A0 n0 c0, .agg #[.int .i64 f0, .int .i64 f1, .int .i64 f2, .int .i64 f3, .int .i64 f4, .bool f5, .bool f6, .int .i64 f7, .slice Af nf cf], .int .i64 k] w fun e w' => e = .returned (.bool true) ∧ Below w.heap.size w w' := by
  obtain ⟨y, hr⟩ := sl.Rd.of_row rowf
  exact walk x0 A0 n0 c0 ⟨f0, f1, f2, f3, f4, f5, f6, f7, y⟩ Af nf cf k w h0 hr
end Go.Proofs.Ytbkdbdhbmabgcaa.xExactAcceptFrame
end

section
namespace Go.Proofs.Ytbkdbdhbmabgcaa.xExactAreValidSeen
open Go.RowKit sl harn bx
set_option linter.unusedVariables false
set_option maxRecDepth 100000 in
set_option maxHeartbeats 4000000 in
theorem walk (x0 : List ux.Sen) (A0 : Option Addr) (n0 c0 : Nat)  (w : World) (h0 : mrw.Rq sn.senS w 0 w.heap.size A0 n0 c0 x0) (hw : ∀ y ∈ x0, sn.Wfs y)  :
    Calls Try.prog 6 #[.slice A0 n0 c0] w fun e w' => e = .returned (.bool true) ∧ Below w.heap.size w w' := by
  have HWF := Lib.hid hw
  clear hw
  have B1 := Lib.hid (Below.refl w.heap.size w)
  have F2 := Lib.hid (sn.sen_rr h0)
  have HL0 := Lib.hid h0.len
  clear h0
  go_enter Try.func6, Try.ntmps6
  go_wp2_with fail
  (with_reducible refine (ux.szSeenFrameS (1048576) (by omega) F2.out).mono ?_)
  rintro e w3 hp
  obtain ⟨r4, rfl, H5, hb⟩ := hp.parts
  have B6 := Lib.hid (B1.out.trans (hb.mono B1.out.size))
  have Z7 := Lib.hid hb.size
  have F8 := Lib.hid (F2.out.below hb)
  clear hb B1 F2
  rcases H5 with ⟨hr, _⟩ | ⟨hr, ht⟩
  · subst hr
    go_wp2_with fail
    go_ret
    exact ⟨rfl, B6.out⟩
  · have Q9 := Lib.hid (show 0 ≤ r4 ∧ r4 ≤ 1048576 by have := (by omega); omega)
    have S10 := Lib.hid (show ux.rowSen.sz x0 ≤ 67108864 by have := (by omega); omega)
    have S11 := Lib.hid (show ux.rowSen.sz x0 ≤ 1048576 by have := (by omega); omega)
    have ngr4 : ¬ r4 < 0 := by have := Q9.out; omega
    clear hr ht
    have HN0 := Lib.hid (show n0 ≤ 1048576 by have h1 := S11.out; rw [sn.row_len] at h1; have h2 := HL0.out; omega)
    obtain ⟨vb, hvb⟩ : ∃ vb, sn.vs x0 = vb := ⟨_, rfl⟩
    have VB := Lib.hid hvb
    clear hvb
    go_wp2_with fail
    (with_reducible refine (ux.toSeenFrameS F8.out S10.out).mono ?_)
    rintro e w12 hp
    obtain ⟨v17, fp16, rfl, ho, hb⟩ := hp.parts
    clear hp
    obtain ⟨A13, n14, c15, rfl⟩ := ux.rowSen_slo ho.1
    have F18 := Lib.hid ho
    clear ho
    have B19 := Lib.hid (B6.out.trans (hb.mono B6.out.size))
    have Z20 := Lib.hid hb.size
    have F21 := Lib.hid (F8.out.below hb)
    clear hb B6 F8
    go_wp2_with fail
    (with_reducible refine (sn.specVs x0 A13 n14 c15 _ _ _ (sn.sen_rq F18.out.rd)).mono ?_)
    rintro e w22 hp
    obtain ⟨rfl, hb⟩ := bx.b_parts VB.out hp
    clear hp
    have B23 := Lib.hid (B19.out.trans (hb.mono B19.out.size))
    have Z24 := Lib.hid hb.size
    have F25 := Lib.hid (F21.out.below hb)
    have F26 := Lib.hid (F18.out.below hb)
    clear hb B19 F21 F18
    clear F26
    go_wp2_with fail
    (with_reducible refine (ux.toSeenFrameS F25.out S10.out).mono ?_)
    rintro e w27 hp
    obtain ⟨v32, fp31, rfl, ho, hb⟩ := hp.parts
    clear hp
    obtain ⟨A28, n29, c30, rfl⟩ := ux.rowSen_slo ho.1
    have F33 := Lib.hid ho
    clear ho
    have B34 := Lib.hid (B23.out.trans (hb.mono B23.out.size))
    have Z35 := Lib.hid hb.size
    have F36 := Lib.hid (F25.out.below hb)
    clear hb B23 F25
    go_wp2_with fail
    (with_reducible refine (sn.implVs x0 A28 n29 c30 _ _ _ (sn.sen_rq F33.out.rd) HWF.out).mono ?_)
    rintro e w37 hp
    obtain ⟨rfl, hb⟩ := bx.b_parts VB.out hp
    clear hp
    have B38 := Lib.hid (B34.out.trans (hb.mono B34.out.size))
    have Z39 := Lib.hid hb.size
    have F40 := Lib.hid (F36.out.below hb)
    have F41 := Lib.hid (F33.out.below hb)
    clear hb B34 F36 F33
    go_wp2_with fail
    (with_reducible refine (ux.toSeenFrameS F40.out S10.out).mono ?_)
    rintro e w42 hp
    obtain ⟨v47, fp46, rfl, ho, hb⟩ := hp.parts
    clear hp
    obtain ⟨A43, n44, c45, rfl⟩ := ux.rowSen_slo ho.1
    have F48 := Lib.hid ho
    clear ho
    have B49 := Lib.hid (B38.out.trans (hb.mono B38.out.size))
    have Z50 := Lib.hid hb.size
    have F51 := Lib.hid (F40.out.below hb)
    have F52 := Lib.hid (F41.out.below hb)
    clear hb B38 F40 F41
    go_wp2_with fail
    (with_reducible refine (ux.eqSeenFrameS F52.out.rd F48.out.rd).mono ?_)
    rintro e w53 hp
    obtain ⟨rfl, hb⟩ := bx.b_parts rfl hp
    clear hp
    have B54 := Lib.hid (B49.out.trans (hb.mono B49.out.size))
    have Z55 := Lib.hid hb.size
    have F56 := Lib.hid (F51.out.below hb)
    have F57 := Lib.hid (F52.out.below hb)
    have F58 := Lib.hid (F48.out.below hb)
    clear hb B49 F51 F52 F48
    clear F58
    go_wp2_with fail
    go_ret
    exact ⟨rfl, B54.out⟩
end Go.Proofs.Ytbkdbdhbmabgcaa.xExactAreValidSeen
end
