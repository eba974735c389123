/- DecodeFrame of the program. Condition: up to 2^26 bytes. -/
import Derived.Test.YtnnlkkohbjolaaaFen
import Derived.Test.YtnnlkkohbjolaaaFof
import Derived.Test.YtnnlkkohbjolaaaEq
namespace Go.Proofs.Ytnnlkkohbjolaaa.fbx
open Go.RowKit sl harn rng frm crcs uvs crcm enc
set_option linter.unusedVariables false
theorem dv_nil : dv [] 0 7 = ([], 0, false) := by
  have e7 : (7 : Int) = ((7 : Nat) : Int) := rfl
  have hr : enc.rv [] 0 = (0, 0, false) := enc.rv_out (by simp)
  rw [e7, dv_in (by simp), dvs_no hr]

set_option maxRecDepth 100000 in
set_option maxHeartbeats 4000000 in
theorem implDf (zs : List Int) (lo hi : Nat) (A : Option Addr) (n cap : Nat) (w : World) (h : Rd .u8 w lo hi A n cap zs) (hn : n ≤ 67108864) :
    Calls Try.prog 15 #[.slice A n cap] w (DPost (df zs) w) := by
  obtain ⟨ys, cb, hck⟩ : ∃ ys cb, chk zs = (ys, cb) := ⟨_, _, rfl⟩
  obtain ⟨l, i, ok, hdv⟩ : ∃ l i ok, dv ys 0 7 = (l, i, ok) := ⟨_, _, _, rfl⟩
  have HCK := Lib.hid hck
  have HDV := Lib.hid hdv
  have HLY := Lib.hid (show ys.length ≤ n by have h1 := chk_len zs; rw [hck] at h1; have h2 := h.len; simp only at h1; omega)
  have R := Lib.hid h
  have HBZ := Lib.hid (show Byt zs from h.wf.u8)
  clear h hck hdv
  go_enter Try.func15, Try.ntmps15
  go_wp2_with fail
  obtain ⟨w0, hW⟩ : ∃ w0, w.alloc (.cells #[.int .i64 0, .int .i64 0, .int .i64 0, .int .i64 0, .int .i64 0, .bool false, .bool false, .int .i64 0, .slice none 0 0] 25) = w0 := ⟨_, rfl⟩
  rw [hW]
  have B0 := Lib.hid (show Below w.heap.size w w0 by rw [← hW]; exact below_box _ _)
  have Z0 := Lib.hid (show Bx 25 w0 w.heap.size #[.int .i64 0, .int .i64 0, .int .i64 0, .int .i64 0, .int .i64 0, .bool false, .bool false, .int .i64 0, .slice none 0 0] by rw [← hW]; exact Bx.made _ _ _)
  have R0 := Lib.hid (R.out.below B0.out)
  clear hW R
  (with_reducible refine (crcs.implCheck zs _ _ A n cap _ R0.out hn).mono ?_)
  rintro en w1 hp
  obtain ⟨A1, n1, cap1, rfl, ho, hb⟩ := crcs.CkPost.parts HCK.out hp
  have O1 := Lib.hid ho
  clear ho hp
  have B1 := Lib.hid (B0.out.trans (hb.mono B0.out.size))
  have Z1 := Lib.hid (Z0.out.below hb)
  have R1 := Lib.hid (R0.out.below hb)
  clear hb Z0 R0 B0
  go_wp2_with fail
  (with_reducible refine (uvs.implDv _ _ A1 n1 cap1 ys 0 7 _ O1.out.rd (by have h1 := O1.out.len; have h2 := HLY.out; omega)).mono ?_)
  rintro en w2 hp
  obtain ⟨A2, n2, cap2, rfl, ho, hb⟩ := hp.parts HDV.out
  have N2 := Lib.hid ho
  clear ho hp
  have B2 := Lib.hid (B1.out.trans (hb.mono B1.out.size))
  have Z2 := Lib.hid (Z1.out.below hb)
  have R2 := Lib.hid (R1.out.below hb)
  have O2 := Lib.hid (O1.out.below hb)
  clear hb Z1 R1 O1 B1
  cases ok with
  | false =>
    have HD := Lib.hid (show df zs = (⟨0, 0, 0, 0, 0, false, false, 0, []⟩, false) from df_dv HCK.out HDV.out)
    clear HCK HDV N2 O2 R2
    have z0 : w2.cell? ⟨w.heap.size, 0, none⟩ = some (.int .i64 0) := Z2.out.cell 0
    have z1 : w2.cell? ⟨w.heap.size, 1, none⟩ = some (.int .i64 0) := Z2.out.cell 1
    have z2 : w2.cell? ⟨w.heap.size, 2, none⟩ = some (.int .i64 0) := Z2.out.cell 2
    have z3 : w2.cell? ⟨w.heap.size, 3, none⟩ = some (.int .i64 0) := Z2.out.cell 3
    have z4 : w2.cell? ⟨w.heap.size, 4, none⟩ = some (.int .i64 0) := Z2.out.cell 4
    have z5 : w2.cell? ⟨w.heap.size, 5, none⟩ = some (.bool false) := Z2.out.cell 5
    have z6 : w2.cell? ⟨w.heap.size, 6, none⟩ = some (.bool false) := Z2.out.cell 6
    have z7 : w2.cell? ⟨w.heap.size, 7, none⟩ = some (.int .i64 0) := Z2.out.cell 7
    have z8 : w2.cell? ⟨w.heap.size, 8, none⟩ = some (.slice none 0 0) := Z2.out.cell 8
    have u0 : w2.frozen? ⟨w.heap.size, 0, none⟩ = false := Z2.out.free 0
    have u1 : w2.frozen? ⟨w.heap.size, 1, none⟩ = false := Z2.out.free 1
    have u2 : w2.frozen? ⟨w.heap.size, 2, none⟩ = false := Z2.out.free 2
    have u3 : w2.frozen? ⟨w.heap.size, 3, none⟩ = false := Z2.out.free 3
    have u4 : w2.frozen? ⟨w.heap.size, 4, none⟩ = false := Z2.out.free 4
    have u5 : w2.frozen? ⟨w.heap.size, 5, none⟩ = false := Z2.out.free 5
    have u6 : w2.frozen? ⟨w.heap.size, 6, none⟩ = false := Z2.out.free 6
    have u7 : w2.frozen? ⟨w.heap.size, 7, none⟩ = false := Z2.out.free 7
    have u8 : w2.frozen? ⟨w.heap.size, 8, none⟩ = false := Z2.out.free 8
    go_wp2_with fail
    (try simp only [Exit.inBlock, Exit.then])
    refine bodyPost_ret (v := .tuple #[.agg #[.int .i64 0, .int .i64 0, .int .i64 0, .int .i64 0, .int .i64 0, .bool false, .bool false, .int .i64 0, .slice none 0 0], .bool false]) ?_ rfl (DPost.make HD.out (ow_none _ _ _ w.heap.size w.heap.size (by rw [size_nine]; exact B2.out.size)) ?_)
    · rw [results_cell_tmp1 rfl]
      go_simp
    · exact below_nine B2.out (by omega) _ _ _ _ _ _ _ _ _
  | true =>
    obtain ⟨g1, g2, g3, g4, g5⟩ := dv_ok (show Byt ys from O2.out.wf.u8) HDV.out
    obtain ⟨a, b, c, d, e, y, g, rfl⟩ := seven g1
    obtain ⟨p, rfl⟩ := Int.eq_ofNat_of_zero_le g3
    have hy : 0 ≤ y ∧ y ≤ 1000000000000 := g2 y (by simp)
    obtain rfl : n2 = 7 := by have h1 := N2.out.len; simpa using h1.symm
    obtain rfl : cb = true := by
          cases cb with
          | true => rfl
          | false => exfalso; have h1 := chk_nok HCK.out; subst h1; have h2 := HDV.out; rw [dv_nil] at h2; injection h2 with _ h2; injection h2 with _ h2; cases h2
    have hpn : p ≤ n1 := by have h1 := O2.out.len; omega
    obtain ⟨ZL, hZL⟩ : ∃ ZL, ys.drop p = ZL := ⟨_, rfl⟩
    have HZL := Lib.hid (show (ys.drop p).take (n1 - p) = ZL by rw [← hZL]; exact List.take_of_length_le (by have h1 := O2.out.len; simp; omega))
    obtain ⟨p1, hp1⟩ : ∃ p1, decide (y % 2 = 1) = p1 := ⟨_, rfl⟩
    obtain ⟨q1, hq1⟩ : ∃ q1, decide (y / 2 % 2 = 1) = q1 := ⟨_, rfl⟩
    have HP1 := Lib.hid hp1
    have HQ1 := Lib.hid hq1
    obtain ⟨el, hel⟩ : ∃ el, ef ⟨a, b, c, d, e, p1, q1, g, ZL⟩ = el := ⟨_, rfl⟩
    have HEL := Lib.hid hel
    have HYES := Lib.hid (show el = zs → df zs = (⟨a, b, c, d, e, p1, q1, g, ZL⟩, true) by
          intro hh
          have e1 : frOf [a, b, c, d, e, y, g] (ys.drop ((p : Int)).toNat) = ⟨a, b, c, d, e, p1, q1, g, ZL⟩ := by rw [Int.toNat_natCast, hZL, ← hp1, ← hq1]; rfl
          have h2 := (same_ask HBZ.out HCK.out HDV.out).1 (by rw [e1, hel, hh])
          have h3 := df_yes HCK.out HDV.out h2.1 h2.2
          rw [e1] at h3; exact h3)
    have HNO := Lib.hid (show ¬ el = zs → df zs = (⟨0, 0, 0, 0, 0, false, false, 0, []⟩, false) by
          intro hh
          have e1 : frOf [a, b, c, d, e, y, g] (ys.drop ((p : Int)).toNat) = ⟨a, b, c, d, e, p1, q1, g, ZL⟩ := by rw [Int.toNat_natCast, hZL, ← hp1, ← hq1]; rfl
          by_cases h3 : [a, b, c, d, e, y, g].getD 5 0 ≤ 3
          · by_cases h4 : Vf (frOf [a, b, c, d, e, y, g] (ys.drop ((p : Int)).toNat))
            · exfalso; exact hh (by rw [← hel, ← e1]; exact (same_ask HBZ.out HCK.out HDV.out).2 ⟨h3, h4⟩)
            · exact df_vf HCK.out HDV.out h4
          · exact df_flag HCK.out HDV.out h3)
    have HY0 := Lib.hid hy
    have L2 := Lib.hid Z2.out.lt
    clear g1 g2 g3 g4 g5 hy hZL hp1 hq1 hel HCK HDV
    go_wp2_with fail
    (with_reducible refine (uvs.copyPart _ _ A1 n1 cap1 ys p n1 _ O2.out.rd hpn (Nat.le_refl _) (by have h1 := O2.out.len; have h2 := HLY.out; omega)).mono ?_)
    rw [HZL.out]
    rintro en w3 ⟨A3, n3, cap3, rfl, ho, hb⟩
    have Y3 := Lib.hid ho
    clear ho
    have B3 := Lib.hid (B2.out.trans (hb.mono B2.out.size))
    have Z3 := Lib.hid (Z2.out.below hb)
    have R3 := Lib.hid (R2.out.below hb)
    have N3 := Lib.hid (N2.out.below hb)
    clear O2
    clear hb Z2 R2 N2 B2
    go_wp2_with fail
    (with_reducible refine (implFo a b c d e y g HY0.out.1 HY0.out.2 _ _ A2 cap2 A3 n3 cap3 _ N3.out.rd).mono ?_)
    rw [HP1.out, HQ1.out]
    rintro en w4 ⟨rfl, hb⟩
    have B4 := Lib.hid (B3.out.trans (hb.mono B3.out.size))
    have Z4 := Lib.hid (Z3.out.below hb)
    have R4 := Lib.hid (R3.out.below hb)
    have Y4 := Lib.hid (Y3.out.below hb)
    clear N3
    clear hb Z3 R3 Y3 B3
    go_wp2_with fail
    obtain ⟨w5, hW⟩ : ∃ w5, w4.alloc (.cells #[.int .i64 a, .int .i64 b, .int .i64 c, .int .i64 d, .int .i64 e, .bool p1, .bool q1, .int .i64 g, .slice A3 n3 cap3] 25) = w5 := ⟨_, rfl⟩
    rw [hW]
    have hb : Below w4.heap.size w4 w5 := by rw [← hW]; exact below_box _ _
    have X5 := Lib.hid (show Bx 25 w5 w4.heap.size #[.int .i64 a, .int .i64 b, .int .i64 c, .int .i64 d, .int .i64 e, .bool p1, .bool q1, .int .i64 g, .slice A3 n3 cap3] by rw [← hW]; exact Bx.made _ _ _)
    have B5 := Lib.hid (B4.out.trans (hb.mono B4.out.size))
    have Z5 := Lib.hid (Z4.out.below hb)
    have R5 := Lib.hid (R4.out.below hb)
    have Y5 := Lib.hid (Y4.out.below hb)
    clear hW hb Z4 R4 Y4
    (with_reducible refine (implEf a b c d e p1 q1 g A3 n3 cap3 ZL _ _ _ Y5.out.rd (by have h1 := Y5.out.len; have h2 := congrArg List.length HZL.out; have h3 := HLY.out; simp at h2; omega)).mono ?_)
    rw [HEL.out]
    rintro en w6 ⟨A6, n6, cap6, rfl, ho, hb⟩
    have E6 := Lib.hid ho
    clear ho
    have B6 := Lib.hid (B5.out.trans (hb.mono B5.out.size))
    have Z6 := Lib.hid (Z5.out.below hb)
    have R6 := Lib.hid (R5.out.below hb)
    have Y6 := Lib.hid (Y5.out.below hb)
    have X6 := Lib.hid (X5.out.below hb)
    clear hb Z5 R5 Y5 X5 B5
    go_wp2_with fail
    obtain ⟨b2, hb2⟩ : ∃ b2, decide (el = zs) = b2 := ⟨_, rfl⟩
    have HB2 := Lib.hid hb2
    clear hb2
    (with_reducible refine (eqs.implEqB el zs _ _ _ _ A6 A n6 cap6 n cap _ E6.out.rd R6.out).mono ?_)
    rintro en w7 hp
    obtain ⟨rfl, hb⟩ := eqs.EqPost_parts HB2.out hp
    clear hp
    have B7 := Lib.hid (B6.out.trans (hb.mono B6.out.size))
    have Z7 := Lib.hid (Z6.out.below hb)
    have Y7 := Lib.hid (Y6.out.below hb)
    have X7 := Lib.hid (X6.out.below hb)
    clear hb Z6 Y6 X6 B6
    cases b2 with
    | true =>
      have HD := Lib.hid (HYES.out (of_decide_eq_true HB2.out))
      clear HYES HNO HB2
      have z0 : w7.cell? ⟨w.heap.size, 0, none⟩ = some (.int .i64 0) := Z7.out.cell 0
      have z1 : w7.cell? ⟨w.heap.size, 1, none⟩ = some (.int .i64 0) := Z7.out.cell 1
      have z2 : w7.cell? ⟨w.heap.size, 2, none⟩ = some (.int .i64 0) := Z7.out.cell 2
      have z3 : w7.cell? ⟨w.heap.size, 3, none⟩ = some (.int .i64 0) := Z7.out.cell 3
      have z4 : w7.cell? ⟨w.heap.size, 4, none⟩ = some (.int .i64 0) := Z7.out.cell 4
      have z5 : w7.cell? ⟨w.heap.size, 5, none⟩ = some (.bool false) := Z7.out.cell 5
      have z6 : w7.cell? ⟨w.heap.size, 6, none⟩ = some (.bool false) := Z7.out.cell 6
      have z7 : w7.cell? ⟨w.heap.size, 7, none⟩ = some (.int .i64 0) := Z7.out.cell 7
      have z8 : w7.cell? ⟨w.heap.size, 8, none⟩ = some (.slice none 0 0) := Z7.out.cell 8
      have u0 : w7.frozen? ⟨w.heap.size, 0, none⟩ = false := Z7.out.free 0
      have u1 : w7.frozen? ⟨w.heap.size, 1, none⟩ = false := Z7.out.free 1
      have u2 : w7.frozen? ⟨w.heap.size, 2, none⟩ = false := Z7.out.free 2
      have u3 : w7.frozen? ⟨w.heap.size, 3, none⟩ = false := Z7.out.free 3
      have u4 : w7.frozen? ⟨w.heap.size, 4, none⟩ = false := Z7.out.free 4
      have u5 : w7.frozen? ⟨w.heap.size, 5, none⟩ = false := Z7.out.free 5
      have u6 : w7.frozen? ⟨w.heap.size, 6, none⟩ = false := Z7.out.free 6
      have u7 : w7.frozen? ⟨w.heap.size, 7, none⟩ = false := Z7.out.free 7
      have u8 : w7.frozen? ⟨w.heap.size, 8, none⟩ = false := Z7.out.free 8
      have x0 : w7.cell? ⟨w4.heap.size, 0, none⟩ = some (.int .i64 a) := X7.out.cell 0
      have x1 : w7.cell? ⟨w4.heap.size, 1, none⟩ = some (.int .i64 b) := X7.out.cell 1
      have x2 : w7.cell? ⟨w4.heap.size, 2, none⟩ = some (.int .i64 c) := X7.out.cell 2
      have x3 : w7.cell? ⟨w4.heap.size, 3, none⟩ = some (.int .i64 d) := X7.out.cell 3
      have x4 : w7.cell? ⟨w4.heap.size, 4, none⟩ = some (.int .i64 e) := X7.out.cell 4
      have x5 : w7.cell? ⟨w4.heap.size, 5, none⟩ = some (.bool p1) := X7.out.cell 5
      have x6 : w7.cell? ⟨w4.heap.size, 6, none⟩ = some (.bool q1) := X7.out.cell 6
      have x7 : w7.cell? ⟨w4.heap.size, 7, none⟩ = some (.int .i64 g) := X7.out.cell 7
      have x8 : w7.cell? ⟨w4.heap.size, 8, none⟩ = some (.slice A3 n3 cap3) := X7.out.cell 8
      go_wp2_with fail
      (try simp only [Exit.inBlock, Exit.then])
      refine bodyPost_ret (v := .tuple #[.agg #[.int .i64 a, .int .i64 b, .int .i64 c, .int .i64 d, .int .i64 e, .bool p1, .bool q1, .int .i64 g, .slice A3 n3 cap3], .bool true]) ?_ rfl (DPost.make HD.out (Ow.down (ow_nine Y7.out L2.out _ _ _ _ _ _ _ _ _) (Nat.le_of_lt L2.out)) ?_)
      · rw [results_cell_tmp1 rfl]
        go_simp
      · exact below_nine B7.out (by omega) _ _ _ _ _ _ _ _ _
    | false =>
      have HD := Lib.hid (HNO.out (of_decide_eq_false HB2.out))
      clear HYES HNO HB2
      have z0 : w7.cell? ⟨w.heap.size, 0, none⟩ = some (.int .i64 0) := Z7.out.cell 0
      have z1 : w7.cell? ⟨w.heap.size, 1, none⟩ = some (.int .i64 0) := Z7.out.cell 1
      have z2 : w7.cell? ⟨w.heap.size, 2, none⟩ = some (.int .i64 0) := Z7.out.cell 2
      have z3 : w7.cell? ⟨w.heap.size, 3, none⟩ = some (.int .i64 0) := Z7.out.cell 3
      have z4 : w7.cell? ⟨w.heap.size, 4, none⟩ = some (.int .i64 0) := Z7.out.cell 4
      have z5 : w7.cell? ⟨w.heap.size, 5, none⟩ = some (.bool false) := Z7.out.cell 5
      have z6 : w7.cell? ⟨w.heap.size, 6, none⟩ = some (.bool false) := Z7.out.cell 6
      have z7 : w7.cell? ⟨w.heap.size, 7, none⟩ = some (.int .i64 0) := Z7.out.cell 7
      have z8 : w7.cell? ⟨w.heap.size, 8, none⟩ = some (.slice none 0 0) := Z7.out.cell 8
      have u0 : w7.frozen? ⟨w.heap.size, 0, none⟩ = false := Z7.out.free 0
      have u1 : w7.frozen? ⟨w.heap.size, 1, none⟩ = false := Z7.out.free 1
      have u2 : w7.frozen? ⟨w.heap.size, 2, none⟩ = false := Z7.out.free 2
      have u3 : w7.frozen? ⟨w.heap.size, 3, none⟩ = false := Z7.out.free 3
      have u4 : w7.frozen? ⟨w.heap.size, 4, none⟩ = false := Z7.out.free 4
      have u5 : w7.frozen? ⟨w.heap.size, 5, none⟩ = false := Z7.out.free 5
      have u6 : w7.frozen? ⟨w.heap.size, 6, none⟩ = false := Z7.out.free 6
      have u7 : w7.frozen? ⟨w.heap.size, 7, none⟩ = false := Z7.out.free 7
      have u8 : w7.frozen? ⟨w.heap.size, 8, none⟩ = false := Z7.out.free 8
      go_wp2_with fail
      (try simp only [Exit.inBlock, Exit.then])
      refine bodyPost_ret (v := .tuple #[.agg #[.int .i64 0, .int .i64 0, .int .i64 0, .int .i64 0, .int .i64 0, .bool false, .bool false, .int .i64 0, .slice none 0 0], .bool false]) ?_ rfl (DPost.make HD.out (ow_none _ _ _ w.heap.size w.heap.size (by rw [size_nine]; exact B7.out.size)) ?_)
      · rw [results_cell_tmp1 rfl]
        go_simp
      · exact below_nine B7.out (by omega) _ _ _ _ _ _ _ _ _
end Go.Proofs.Ytnnlkkohbjolaaa.fbx
