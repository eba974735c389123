/- The law function of capture (FnCapture) returns true and leaves what was there. Condition: the argument is a slice of bytes that came in. -/
import Derived.Test.YtichhbkgebimeaaHearLaw
import Derived.Test.YtichhbkgebimeaaRc5
namespace Go.Proofs.Ytichhbkgebimeaa.capLaw
open Go.RowKit sl harn plm rfm draw hearLaw
set_option linter.unusedVariables false
theorem rf_pos {z : List Int} {r s : Int} {l : List Int} {q v : Int} (h : Rf z r s l q v) (hv : 0 ≤ v) : q ∉ l ∧ Best z s l q v ∧ win z r v q = true ∧ ∀ y ∈ l, win z s y q = true → y ≠ v → 2 * dst z v q ≤ dst z y q := by
  rcases h with ⟨rfl, _⟩ | h
  · omega
  · exact h
theorem rf_one {z : List Int} {r s i q v : Int} (h : Rf z r s [i] q v) (hi : 0 ≤ i) (hrs : r ≤ s) : (v = i) ↔ win z r i q = true := by
  constructor
  · rintro rfl
    exact (rf_pos h hi).2.2.1
  · intro hw
    have hn := (win_iff.1 hw).1
    have hs := win_wide hw hrs
    have hb : Best z s [i] q i := ⟨by simp, hs, fun y hy _ => by simp at hy; subst hy; exact .inr ⟨rfl, Int.le_refl _⟩⟩
    rcases h with ⟨rfl, h | h | ⟨b, h1, h2 | ⟨y, hy, _, hne, _⟩⟩⟩ | h
    · simp at h; exact absurd h.symm hn
    · have := h i (by simp); rw [hs] at this; cases this
    · rw [← hb.eq h1, hw] at h2; cases h2
    · simp at hy; subst hy; exact absurd (hb.eq h1) hne
    · exact (hb.eq h.2.1).symm
theorem rf_self {z : List Int} {r s i q v : Int} (h : Rf z r s [i, q] q v) : v = -1 := by
  rcases h with ⟨h, _⟩ | h
  · exact h
  · exact absurd (by simp) h.1

set_option maxRecDepth 100000 in
set_option maxHeartbeats 4000000 in
theorem walk (a : Option Addr) (len cap : Nat) (z0 : List Int) (w : World) (r0 : kit.IsRow .u8 w a len cap z0) :
    Calls Try.prog 4 #[.slice a len cap] w fun e w' => e = .returned (.bool true) ∧ Below w.heap.size w w' := by
  have HC := Lib.hid (draw.code_of_row r0)
  have hlen : (len : Int) ≤ 9223372036854775807 := by have := HC.out.1; omega
  clear r0
  by_cases hbig : 1048576 < (len : Int)
  · go_enter Try.func4, Try.ntmps4
    go_wp2
    go_ret
    exact ⟨rfl, Below.refl _ _⟩
  go_enter Try.func4, Try.ntmps4
  go_wp2_with (go_at_call 12; go_in)
  clear hbig
  go_wp2_with fail
  (with_reducible refine (drawRcv a len cap _ HC.out).mono ?_)
  rintro e w1 ⟨A, n, c, x, y, z, A2, n2, cp2, l, q, rfl, hn, hin, hn2, hin2, hq, ho, hr, hb⟩
  have SZ := Lib.hid (sm_of_in hin (by omega) (by omega))
  have HL := Lib.hid (show n ≤ 67108864 by omega)
  have HN2 := Lib.hid hr.len
  have hcap := hr.cap_
  obtain ⟨b1, hbb⟩ : ∃ b, w1.heap.size = b := ⟨_, rfl⟩
  go_wp2_with fail
  obtain ⟨w2, hW⟩ : ∃ u, w1.alloc (.cells #[.slice A n c, .int .i64 x, .int .i64 y] 26) = u := ⟨_, rfl⟩
  try rw [hbb]
  try rw [hW]
  have B2 := Lib.hid (show Below w.heap.size w w2 by rw [← hW]; exact hb.alloc hb.size _)
  have X2 := Lib.hid (show bx.Bx 26 w2 b1 #[.slice A n c, .int .i64 x, .int .i64 y] by rw [← hW, ← hbb]; exact bx.Bx.made _ _ _)
  have R2 := Lib.hid (show Rd .i64 w2 w.heap.size w1.heap.size A n c z by rw [← hW]; exact ho.rd.below (bx.below_box _ _))
  have L2 := Lib.hid (show Rd .i64 w2 w.heap.size w1.heap.size A2 n2 cp2 l by rw [← hW]; exact hr.below (bx.below_box _ _))
  clear hn hin hn2 hin2 hq ho hr hb hbb hW
  (with_reducible refine (bx.implRf A n c x y z A2 n2 cp2 l q _ _ _ _ _ R2.out L2.out HL.out SZ.out).mono ?_)
  rintro e w3 ⟨v, rfl, hv, hb⟩
  have HV := Lib.hid hv
  clear hv
  have B3 := Lib.hid (B2.out.trans (hb.mono B2.out.size))
  have X3 := Lib.hid (X2.out.below hb)
  have R3 := Lib.hid (R2.out.below hb)
  have L3 := Lib.hid (L2.out.below hb)
  clear hb B2 X2 R2 L2
  have c0 : w3.cell? ⟨b1, 0, none⟩ = some (.slice A n c) := X3.out.cell 0
  have c1 : w3.cell? ⟨b1, 1, none⟩ = some (.int .i64 x) := X3.out.cell 1
  have c2 : w3.cell? ⟨b1, 2, none⟩ = some (.int .i64 y) := X3.out.cell 2
  go_wp2_with fail
  clear c0 c1 c2
  (with_reducible refine (bx.specRf A n c x y z A2 n2 cp2 l q _ _ _ _ _ R3.out L3.out SZ.out).mono ?_)
  rintro e w4 ⟨v2, rfl, hv, hb⟩
  obtain rfl := HV.out.eq hv
  clear hv
  have B4 := Lib.hid (B3.out.trans (hb.mono B3.out.size))
  have X4 := Lib.hid (X3.out.below hb)
  have R4 := Lib.hid (R3.out.below hb)
  have L4 := Lib.hid (L3.out.below hb)
  clear hb B3 X3 R3 L3
  by_cases hv0 : 0 ≤ v
  · obtain ⟨h1, h2, h3, h4⟩ := rf_pos HV.out hv0
    have CT := Lib.hid (show decide (v ∈ l) = true from decide_eq_true h2.1)
    have CF := Lib.hid (show decide (q ∈ l) = false from decide_eq_false h1)
    have WV := Lib.hid h3
    have HA := Lib.hid h4
    have WS := Lib.hid h2.2.1
    clear h1 h2 h3 h4
    have hv1 : v ≥ 0 := hv0
    have c0 : w4.cell? ⟨b1, 0, none⟩ = some (.slice A n c) := X4.out.cell 0
    have c1 : w4.cell? ⟨b1, 1, none⟩ = some (.int .i64 x) := X4.out.cell 1
    have c2 : w4.cell? ⟨b1, 2, none⟩ = some (.int .i64 y) := X4.out.cell 2
    go_wp2_with fail
    (with_reducible refine (bx.lawContains l v _ _ A2 n2 cp2 _ L4.out).mono ?_)
    rw [CT.out]
    rintro e w5 ⟨rfl, rfl⟩
    go_wp2_with fail
    (with_reducible refine (bx.lawContains l q _ _ A2 n2 cp2 _ L4.out).mono ?_)
    rw [CF.out]
    rintro e w5 ⟨rfl, rfl⟩
    go_wp2_with fail
    (with_reducible refine (bx.implCr A n c x y z v q _ _ _ R4.out).mono ?_)
    rintro e w6 hp
    obtain ⟨rfl, hb⟩ := bx.b_parts WV.out hp
    clear hp c0 c1 c2
    have B6 := Lib.hid (B4.out.trans (hb.mono B4.out.size))
    have X6 := Lib.hid (X4.out.below hb)
    have R6 := Lib.hid (R4.out.below hb)
    have L6 := Lib.hid (L4.out.below hb)
    clear hb B4 X4 R4 L4
    go_wp2_with fail
    go_loopw [7] (fun i wr => ∃ k : Nat, i = .int .i64 k ∧ k ≤ n2 ∧ Below w6.heap.size w6 wr) (fun i _ => n2 - (intOf i).toNat)
    case atStart => exact ⟨0, rfl, by omega, Below.refl _ _⟩
    case round =>
      obtain ⟨k, rfl, hk, hb⟩ := hrel
      have X7 := Lib.hid (X6.out.below hb)
      have R7 := Lib.hid (R6.out.below hb)
      have D7 := Lib.hid hb
      by_cases hlt : k < n2
      · have hlt2 : (k : Int) < n2 := by omega
        obtain ⟨b2, off, rfl, _, _, hcl⟩ := (L6.out.below hb).at_ hlt
        obtain ⟨u, hu⟩ : ∃ u, l.getD k 0 = u := ⟨_, rfl⟩
        rw [hu] at hcl
        have HM := Lib.hid (show u ∈ l by rw [← hu]; exact mem_getD (by rw [HN2.out]; exact hlt))
        have hcm : ∀ m : bx.Af wr, m.w.cell? ⟨b2, off + k, none⟩ = some (.int .i64 u) := fun m => by rw [m.below.cell (block_lt_of_cell hcl)]; exact hcl
        clear hu hb
        go_wp2_with fail
        clear hcl
        by_cases huv : u = v
        · have hn1 : (u != v) = false := by simp [huv]
          clear huv
          have c0 : ∀ m : bx.Af wr, m.w.cell? ⟨b1, 0, none⟩ = some (.slice A n c) := fun m => (bx.Af.cells X7.out m).cell 0
          have c1 : ∀ m : bx.Af wr, m.w.cell? ⟨b1, 1, none⟩ = some (.int .i64 x) := fun m => (bx.Af.cells X7.out m).cell 1
          have c2 : ∀ m : bx.Af wr, m.w.cell? ⟨b1, 2, none⟩ = some (.int .i64 y) := fun m => (bx.Af.cells X7.out m).cell 2
          refine bx.region_after (by kernel_rfl) (by kernel_rfl) ?_
          repeat (go_big_quiet_step (fail))
          refine wpQuiet_nil ?_
          intro _ hw'
          obtain ⟨nq, hw''⟩ := hw'
          subst hw''
          clear hcm c0 c1 c2 
          go_wp2_with fail
          go_roundw
          case rel => exact ⟨k + 1, by go_num, by omega, bx.Af.on D7.out nq⟩
          case measure => simp [intOf]; omega
        · have hn1 : (u != v) = true := by simpa using huv
          cases hw : win z y u q with
          | false =>
            have HW := Lib.hid hw
            clear hw huv
            have c0 : ∀ m : bx.Af wr, m.w.cell? ⟨b1, 0, none⟩ = some (.slice A n c) := fun m => (bx.Af.cells X7.out m).cell 0
            have c1 : ∀ m : bx.Af wr, m.w.cell? ⟨b1, 1, none⟩ = some (.int .i64 x) := fun m => (bx.Af.cells X7.out m).cell 1
            have c2 : ∀ m : bx.Af wr, m.w.cell? ⟨b1, 2, none⟩ = some (.int .i64 y) := fun m => (bx.Af.cells X7.out m).cell 2
            have k0 := Lib.hid (fun m => by have hh := bx.specCs A n c x y z u q _ _ _ (bx.Af.rd R7.out m); rw [HW.out] at hh; exact hh : ∀ m : bx.Af wr, Calls Try.prog 24 #[.agg #[.slice A n c, .int .i64 x, .int .i64 y], .int .i64 u, .int .i64 q] m.w fun e w' => e = .returned (.bool false) ∧ Below m.w.heap.size m.w w')
            refine bx.region_after (by kernel_rfl) (by kernel_rfl) ?_
            repeat (go_big_quiet_step ((first
              | (go_at_call 24; with_reducible exact bx.Af.call (k0.out _)))))
            refine wpQuiet_nil ?_
            intro _ hw'
            obtain ⟨nq, hw''⟩ := hw'
            subst hw''
            clear hcm c0 c1 c2 k0
            go_wp2_with fail
            go_roundw
            case rel => exact ⟨k + 1, by go_num, by omega, bx.Af.on D7.out nq⟩
            case measure => simp [intOf]; omega
          | true =>
            have HW := Lib.hid hw
            obtain ⟨d, hd⟩ : ∃ d, dst z u q = d := ⟨_, rfl⟩
            obtain ⟨g, hg⟩ : ∃ g, dst z v q = g := ⟨_, rfl⟩
            have hdg := HA.out u HM.out hw huv
            have hg2 := win_sm SZ.out WS.out
            rw [hd, hg] at hdg
            rw [hg] at hg2
            have HD := Lib.hid hd
            have HG := Lib.hid hg
            have hm1 : IntKind.i64.wrap (2 * g) = 2 * g := IntWalk.i64_in _ (by omega)
            have hf1 : decide (d < 2 * g) = false := decide_eq_false (by omega)
            have hf2 : ¬ d < 2 * g := by omega
            clear hw huv hd hg hdg hg2
            have c0 : ∀ m : bx.Af wr, m.w.cell? ⟨b1, 0, none⟩ = some (.slice A n c) := fun m => (bx.Af.cells X7.out m).cell 0
            have c1 : ∀ m : bx.Af wr, m.w.cell? ⟨b1, 1, none⟩ = some (.int .i64 x) := fun m => (bx.Af.cells X7.out m).cell 1
            have c2 : ∀ m : bx.Af wr, m.w.cell? ⟨b1, 2, none⟩ = some (.int .i64 y) := fun m => (bx.Af.cells X7.out m).cell 2
            have k0 := Lib.hid (fun m => by have hh := bx.specCs A n c x y z u q _ _ _ (bx.Af.rd R7.out m); rw [HW.out] at hh; exact hh : ∀ m : bx.Af wr, Calls Try.prog 24 #[.agg #[.slice A n c, .int .i64 x, .int .i64 y], .int .i64 u, .int .i64 q] m.w fun e w' => e = .returned (.bool true) ∧ Below m.w.heap.size m.w w')
            have k1 := Lib.hid (fun m => by have hh := bx.specDst A n c x y z u q _ _ _ (bx.Af.rd R7.out m); rw [HD.out] at hh; exact hh : ∀ m : bx.Af wr, Calls Try.prog 25 #[.agg #[.slice A n c, .int .i64 x, .int .i64 y], .int .i64 u, .int .i64 q] m.w fun e w' => e = .returned (.int .i64 d) ∧ Below m.w.heap.size m.w w')
            have k2 := Lib.hid (fun m => by have hh := bx.specDst A n c x y z v q _ _ _ (bx.Af.rd R7.out m); rw [HG.out] at hh; exact hh : ∀ m : bx.Af wr, Calls Try.prog 25 #[.agg #[.slice A n c, .int .i64 x, .int .i64 y], .int .i64 v, .int .i64 q] m.w fun e w' => e = .returned (.int .i64 g) ∧ Below m.w.heap.size m.w w')
            refine bx.region_after (by kernel_rfl) (by kernel_rfl) ?_
            repeat (go_big_quiet_step ((first
              | (go_at_call 24; with_reducible exact bx.Af.call (k0.out _))
              | (go_at_call 25; with_reducible exact bx.Af.call (k1.out _))
              | (go_at_call 25; with_reducible exact bx.Af.call (k2.out _)))))
            refine wpQuiet_nil ?_
            intro _ hw'
            obtain ⟨nq, hw''⟩ := hw'
            subst hw''
            clear hcm c0 c1 c2 k0 k1 k2
            go_wp2_with fail
            go_roundw
            case rel => exact ⟨k + 1, by go_num, by omega, bx.Af.on D7.out nq⟩
            case measure => simp [intOf]; omega
      · have hlt2 : ¬ (k : Int) < n2 := by omega
        have B9 := Lib.hid (B6.out.trans (hb.mono B6.out.size))
        clear hb hlt hk X6 R6 L6 X7 R7 D7 HA B6
        have D9 := Lib.hid (code_later HC.out B9.out)
        go_wp2_with fail
        (with_reducible refine (placed a len cap _ D9.out).mono ?_)
        rintro e w20 ⟨A5, n5, c5, x5, y5, z5, i, j, k, rfl, hn5, hin5, ⟨hi, hj, hk⟩, ho5, hb5⟩
        have hl5 := ho5.len
        have SM := Lib.hid (sm_of_in hin5 (by omega) (by omega))
        have HL5 := Lib.hid (show n5 ≤ 67108864 by omega)
        have HXY := Lib.hid (show x5 ≤ y5 by omega)
        have WI := Lib.hid (show (Lit.int .i64 i).wf = true from WalkArith.wf_i64 (by omega))
        have WJ := Lib.hid (show (Lit.int .i64 j).wf = true from WalkArith.wf_i64 (by omega))
        have HI0 := Lib.hid hi.1
        obtain ⟨b, hbb⟩ : ∃ b, w20.heap.size = b := ⟨_, rfl⟩
        go_wp2_with fail
        obtain ⟨w21, hW⟩ : ∃ u, (w20.alloc (.cells #[.slice A5 n5 c5, .int .i64 x5, .int .i64 y5] 26)).alloc (.cells #[.int .i64 i] 3) = u := ⟨_, rfl⟩
        try rw [hbb]
        try rw [hW]
        have hb2 : Below w20.heap.size w20 w21 := by rw [← hW]; exact bx.below_box2 _ _ _
        have B21 := Lib.hid ((B9.out.trans (hb5.mono B9.out.size)).trans (hb2.mono (B9.out.trans (hb5.mono B9.out.size)).size))
        have X21 := Lib.hid (show bx.Bx 26 w21 b #[.slice A5 n5 c5, .int .i64 x5, .int .i64 y5] by rw [← hW, ← hbb]; exact (bx.Bx.made _ _ _).below (bx.below_box _ _))
        have R21 := Lib.hid (ho5.rd.below hb2)
        have L21 := Lib.hid (show Rd .i64 w21 (b + 1) (b + 2) (some ⟨b + 1, 0, none⟩) 1 1 [i] by rw [← hW, ← hbb]; have hh := Rd.one .i64 3 (w20.alloc (.cells #[.slice A5 n5 c5, .int .i64 x5, .int .i64 y5] 26)) i WI.out; simpa using hh)
        clear hn5 hin5 hi hj hk ho5 hb5 hl5 hW hb2 hbb B9 D9
        (with_reducible refine (bx.implRf A5 n5 c5 x5 y5 z5 _ 1 1 [i] j _ _ _ _ _ R21.out L21.out HL5.out SM.out).mono ?_)
        rintro e w22 ⟨one, rfl, hr1, hb⟩
        have HO := Lib.hid (rf_one hr1 HI0.out HXY.out)
        clear hr1
        have B22 := Lib.hid (B21.out.trans (hb.mono B21.out.size))
        have X22 := Lib.hid (X21.out.below hb)
        have R22 := Lib.hid (R21.out.below hb)
        clear hb B21 X21 R21
        clear L21
        have c0 : w22.cell? ⟨b, 0, none⟩ = some (.slice A5 n5 c5) := X22.out.cell 0
        have c1 : w22.cell? ⟨b, 1, none⟩ = some (.int .i64 x5) := X22.out.cell 1
        have c2 : w22.cell? ⟨b, 2, none⟩ = some (.int .i64 y5) := X22.out.cell 2
        go_wp2_with fail
        clear c0 c1 c2
        (with_reducible refine (bx.implEx A5 n5 c5 x5 y5 z5 i j k 0 _ _ _ R22.out HL5.out SM.out WI.out WJ.out).mono ?_)
        rintro e w23 ⟨ex, rfl, hex, hb⟩
        have HE := Lib.hid hex
        clear hex
        have B23 := Lib.hid (B22.out.trans (hb.mono B22.out.size))
        have X23 := Lib.hid (X22.out.below hb)
        have R23 := Lib.hid (R22.out.below hb)
        clear hb B22 X22 R22
        have c0 : w23.cell? ⟨b, 0, none⟩ = some (.slice A5 n5 c5) := X23.out.cell 0
        have c1 : w23.cell? ⟨b, 1, none⟩ = some (.int .i64 x5) := X23.out.cell 1
        have c2 : w23.cell? ⟨b, 2, none⟩ = some (.int .i64 y5) := X23.out.cell 2
        cases hw : win z5 x5 i j with
        | false =>
          have HW := Lib.hid hw
          have h1 : ¬ one = i := fun h => by have := HO.out.1 h; rw [hw] at this; cases this
          have h2 : (one == i) = false := by simpa using h1
          clear h1 hw
          go_wp2_with fail
          (with_reducible refine (bx.implCr A5 n5 c5 x5 y5 z5 i j _ _ _ R23.out).mono ?_)
          rintro e w24 hp
          obtain ⟨rfl, hb⟩ := bx.b_parts HW.out hp
          clear hp c0 c1 c2
          have B24 := Lib.hid (B23.out.trans (hb.mono B23.out.size))
          have X24 := Lib.hid (X23.out.below hb)
          have R24 := Lib.hid (R23.out.below hb)
          clear hb B23 X23 R23
          have c0 : ∀ o, (w24.alloc o).cell? ⟨b, 0, none⟩ = some (.slice A5 n5 c5) := fun o => (X24.out.below (bx.below_box _ _)).cell 0
          have c1 : ∀ o, (w24.alloc o).cell? ⟨b, 1, none⟩ = some (.int .i64 x5) := fun o => (X24.out.below (bx.below_box _ _)).cell 1
          have c2 : ∀ o, (w24.alloc o).cell? ⟨b, 2, none⟩ = some (.int .i64 y5) := fun o => (X24.out.below (bx.below_box _ _)).cell 2
          have d0 : w24.cell? ⟨b, 0, none⟩ = some (.slice A5 n5 c5) := X24.out.cell 0
          have d1 : w24.cell? ⟨b, 1, none⟩ = some (.int .i64 x5) := X24.out.cell 1
          have d2 : w24.cell? ⟨b, 2, none⟩ = some (.int .i64 y5) := X24.out.cell 2
          go_wp2_with fail
          clear c0 c1 c2 d0 d1 d2
          obtain ⟨w25, hW⟩ : ∃ u, w24.alloc (.cells #[.int .i64 i, .int .i64 j] 3) = u := ⟨_, rfl⟩
          rw [hW]
          have hb : Below w24.heap.size w24 w25 := by rw [← hW]; exact bx.below_box _ _
          have L25 := Lib.hid (show Rd .i64 w25 w24.heap.size w25.heap.size (some ⟨w24.heap.size, 0, none⟩) 2 2 [i, j] by rw [← hW]; exact (Ow.lit (E := 3) (k := .i64) (n := 2) w24 #[.int .i64 i, .int .i64 j] [i, j] rfl (bx.wf_two WI.out WJ.out) (by simp [maxLen]) rfl).rd)
          clear hW
          have B25 := Lib.hid (B24.out.trans (hb.mono B24.out.size))
          have X25 := Lib.hid (X24.out.below hb)
          have R25 := Lib.hid (R24.out.below hb)
          clear hb B24 X24 R24
          (with_reducible refine (bx.implRf A5 n5 c5 x5 y5 z5 _ 2 2 [i, j] j _ _ _ _ _ R25.out L25.out HL5.out SM.out).mono ?_)
          rintro e w26 ⟨r2, rfl, hr2, hb⟩
          obtain rfl := rf_self hr2
          clear hr2 L25
          have B26 := Lib.hid (B25.out.trans (hb.mono B25.out.size))
          have X26 := Lib.hid (X25.out.below hb)
          have R26 := Lib.hid (R25.out.below hb)
          clear hb B25 X25 R25
          have c0 : w26.cell? ⟨b, 0, none⟩ = some (.slice A5 n5 c5) := X26.out.cell 0
          have c1 : w26.cell? ⟨b, 1, none⟩ = some (.int .i64 x5) := X26.out.cell 1
          have c2 : w26.cell? ⟨b, 2, none⟩ = some (.int .i64 y5) := X26.out.cell 2
          cases ex with
          | false =>
            go_wp2_with fail
            go_ret
            exact ⟨rfl, B26.out⟩
          | true =>
            have HV := Lib.hid (HE.out rfl).1
            have HF := Lib.hid (HE.out rfl).2
            go_wp2_with fail
            (with_reducible refine (bx.implCs A5 n5 c5 x5 y5 z5 i j _ _ _ R26.out).mono ?_)
            rintro e w27 hp
            obtain ⟨rfl, hb⟩ := bx.b_parts HV.out hp
            clear hp c0 c1 c2
            have B27 := Lib.hid (B26.out.trans (hb.mono B26.out.size))
            have X27 := Lib.hid (X26.out.below hb)
            have R27 := Lib.hid (R26.out.below hb)
            clear hb B26 X26 R26
            have c0 : ∀ o, (w27.alloc o).cell? ⟨b, 0, none⟩ = some (.slice A5 n5 c5) := fun o => (X27.out.below (bx.below_box _ _)).cell 0
            have c1 : ∀ o, (w27.alloc o).cell? ⟨b, 1, none⟩ = some (.int .i64 x5) := fun o => (X27.out.below (bx.below_box _ _)).cell 1
            have c2 : ∀ o, (w27.alloc o).cell? ⟨b, 2, none⟩ = some (.int .i64 y5) := fun o => (X27.out.below (bx.below_box _ _)).cell 2
            have d0 : w27.cell? ⟨b, 0, none⟩ = some (.slice A5 n5 c5) := X27.out.cell 0
            have d1 : w27.cell? ⟨b, 1, none⟩ = some (.int .i64 x5) := X27.out.cell 1
            have d2 : w27.cell? ⟨b, 2, none⟩ = some (.int .i64 y5) := X27.out.cell 2
            go_wp2_with fail
            clear c0 c1 c2 d0 d1 d2
            obtain ⟨w28, hW⟩ : ∃ u, w27.alloc (.cells #[.int .i64 i, .int .i64 j] 3) = u := ⟨_, rfl⟩
            rw [hW]
            have hb : Below w27.heap.size w27 w28 := by rw [← hW]; exact bx.below_box _ _
            have L28 := Lib.hid (show Rd .i64 w28 w27.heap.size w28.heap.size (some ⟨w27.heap.size, 0, none⟩) 2 2 [i, j] by rw [← hW]; exact (Ow.lit (E := 3) (k := .i64) (n := 2) w27 #[.int .i64 i, .int .i64 j] [i, j] rfl (bx.wf_two WI.out WJ.out) (by simp [maxLen]) rfl).rd)
            clear hW
            have B28 := Lib.hid (B27.out.trans (hb.mono B27.out.size))
            have X28 := Lib.hid (X27.out.below hb)
            have R28 := Lib.hid (R27.out.below hb)
            clear hb B27 X27 R27
            (with_reducible refine (bx.implRf A5 n5 c5 x5 y5 z5 _ 2 2 [i, j] k _ _ _ _ _ R28.out L28.out HL5.out SM.out).mono ?_)
            rintro e w29 ⟨r3, rfl, hr3, hb⟩
            obtain rfl := hr3.eq HF.out
            clear hr3 L28
            have B29 := Lib.hid (B28.out.trans (hb.mono B28.out.size))
            have X29 := Lib.hid (X28.out.below hb)
            have R29 := Lib.hid (R28.out.below hb)
            clear hb B28 X28 R28
            go_wp2_with fail
            go_ret
            exact ⟨rfl, B29.out⟩
        | true =>
          have HW := Lib.hid hw
          have h1 : one = i := HO.out.2 hw
          have h2 : (one == i) = true := by simpa using h1
          have HQ := Lib.hid h1
          clear h1 hw
          go_wp2_with fail
          (with_reducible refine (bx.implCr A5 n5 c5 x5 y5 z5 i j _ _ _ R23.out).mono ?_)
          rintro e w24 hp
          obtain ⟨rfl, hb⟩ := bx.b_parts HW.out hp
          clear hp c0 c1 c2
          have B24 := Lib.hid (B23.out.trans (hb.mono B23.out.size))
          have X24 := Lib.hid (X23.out.below hb)
          have R24 := Lib.hid (R23.out.below hb)
          clear hb B23 X23 R23
          have c0 : ∀ o, (w24.alloc o).cell? ⟨b, 0, none⟩ = some (.slice A5 n5 c5) := fun o => (X24.out.below (bx.below_box _ _)).cell 0
          have c1 : ∀ o, (w24.alloc o).cell? ⟨b, 1, none⟩ = some (.int .i64 x5) := fun o => (X24.out.below (bx.below_box _ _)).cell 1
          have c2 : ∀ o, (w24.alloc o).cell? ⟨b, 2, none⟩ = some (.int .i64 y5) := fun o => (X24.out.below (bx.below_box _ _)).cell 2
          have d0 : w24.cell? ⟨b, 0, none⟩ = some (.slice A5 n5 c5) := X24.out.cell 0
          have d1 : w24.cell? ⟨b, 1, none⟩ = some (.int .i64 x5) := X24.out.cell 1
          have d2 : w24.cell? ⟨b, 2, none⟩ = some (.int .i64 y5) := X24.out.cell 2
          go_wp2_with fail
          clear c0 c1 c2 d0 d1 d2
          obtain ⟨w25, hW⟩ : ∃ u, w24.alloc (.cells #[.int .i64 i, .int .i64 j] 3) = u := ⟨_, rfl⟩
          rw [hW]
          have hb : Below w24.heap.size w24 w25 := by rw [← hW]; exact bx.below_box _ _
          have L25 := Lib.hid (show Rd .i64 w25 w24.heap.size w25.heap.size (some ⟨w24.heap.size, 0, none⟩) 2 2 [i, j] by rw [← hW]; exact (Ow.lit (E := 3) (k := .i64) (n := 2) w24 #[.int .i64 i, .int .i64 j] [i, j] rfl (bx.wf_two WI.out WJ.out) (by simp [maxLen]) rfl).rd)
          clear hW
          have B25 := Lib.hid (B24.out.trans (hb.mono B24.out.size))
          have X25 := Lib.hid (X24.out.below hb)
          have R25 := Lib.hid (R24.out.below hb)
          clear hb B24 X24 R24
          (with_reducible refine (bx.implRf A5 n5 c5 x5 y5 z5 _ 2 2 [i, j] j _ _ _ _ _ R25.out L25.out HL5.out SM.out).mono ?_)
          rintro e w26 ⟨r2, rfl, hr2, hb⟩
          obtain rfl := rf_self hr2
          clear hr2 L25
          have B26 := Lib.hid (B25.out.trans (hb.mono B25.out.size))
          have X26 := Lib.hid (X25.out.below hb)
          have R26 := Lib.hid (R25.out.below hb)
          clear hb B25 X25 R25
          have c0 : w26.cell? ⟨b, 0, none⟩ = some (.slice A5 n5 c5) := X26.out.cell 0
          have c1 : w26.cell? ⟨b, 1, none⟩ = some (.int .i64 x5) := X26.out.cell 1
          have c2 : w26.cell? ⟨b, 2, none⟩ = some (.int .i64 y5) := X26.out.cell 2
          cases ex with
          | false =>
            go_wp2_with fail
            go_ret
            exact ⟨rfl, B26.out⟩
          | true =>
            have HV := Lib.hid (HE.out rfl).1
            have HF := Lib.hid (HE.out rfl).2
            go_wp2_with fail
            (with_reducible refine (bx.implCs A5 n5 c5 x5 y5 z5 i j _ _ _ R26.out).mono ?_)
            rintro e w27 hp
            obtain ⟨rfl, hb⟩ := bx.b_parts HV.out hp
            clear hp c0 c1 c2
            have B27 := Lib.hid (B26.out.trans (hb.mono B26.out.size))
            have X27 := Lib.hid (X26.out.below hb)
            have R27 := Lib.hid (R26.out.below hb)
            clear hb B26 X26 R26
            have c0 : ∀ o, (w27.alloc o).cell? ⟨b, 0, none⟩ = some (.slice A5 n5 c5) := fun o => (X27.out.below (bx.below_box _ _)).cell 0
            have c1 : ∀ o, (w27.alloc o).cell? ⟨b, 1, none⟩ = some (.int .i64 x5) := fun o => (X27.out.below (bx.below_box _ _)).cell 1
            have c2 : ∀ o, (w27.alloc o).cell? ⟨b, 2, none⟩ = some (.int .i64 y5) := fun o => (X27.out.below (bx.below_box _ _)).cell 2
            have d0 : w27.cell? ⟨b, 0, none⟩ = some (.slice A5 n5 c5) := X27.out.cell 0
            have d1 : w27.cell? ⟨b, 1, none⟩ = some (.int .i64 x5) := X27.out.cell 1
            have d2 : w27.cell? ⟨b, 2, none⟩ = some (.int .i64 y5) := X27.out.cell 2
            go_wp2_with fail
            clear c0 c1 c2 d0 d1 d2
            obtain ⟨w28, hW⟩ : ∃ u, w27.alloc (.cells #[.int .i64 i, .int .i64 j] 3) = u := ⟨_, rfl⟩
            rw [hW]
            have hb : Below w27.heap.size w27 w28 := by rw [← hW]; exact bx.below_box _ _
            have L28 := Lib.hid (show Rd .i64 w28 w27.heap.size w28.heap.size (some ⟨w27.heap.size, 0, none⟩) 2 2 [i, j] by rw [← hW]; exact (Ow.lit (E := 3) (k := .i64) (n := 2) w27 #[.int .i64 i, .int .i64 j] [i, j] rfl (bx.wf_two WI.out WJ.out) (by simp [maxLen]) rfl).rd)
            clear hW
            have B28 := Lib.hid (B27.out.trans (hb.mono B27.out.size))
            have X28 := Lib.hid (X27.out.below hb)
            have R28 := Lib.hid (R27.out.below hb)
            clear hb B27 X27 R27
            (with_reducible refine (bx.implRf A5 n5 c5 x5 y5 z5 _ 2 2 [i, j] k _ _ _ _ _ R28.out L28.out HL5.out SM.out).mono ?_)
            rintro e w29 ⟨r3, rfl, hr3, hb⟩
            obtain rfl := hr3.eq HF.out
            clear hr3 L28
            have B29 := Lib.hid (B28.out.trans (hb.mono B28.out.size))
            have X29 := Lib.hid (X28.out.below hb)
            have R29 := Lib.hid (R28.out.below hb)
            clear hb B28 X28 R28
            go_wp2_with fail
            go_ret
            exact ⟨rfl, B29.out⟩
  · have hv1 : ¬ v ≥ 0 := fun h => hv0 h
    clear X4 R4 L4
    have D4 := Lib.hid (code_later HC.out B4.out)
    go_wp2_with fail
    (with_reducible refine (placed a len cap _ D4.out).mono ?_)
    rintro e w20 ⟨A5, n5, c5, x5, y5, z5, i, j, k, rfl, hn5, hin5, ⟨hi, hj, hk⟩, ho5, hb5⟩
    have hl5 := ho5.len
    have SM := Lib.hid (sm_of_in hin5 (by omega) (by omega))
    have HL5 := Lib.hid (show n5 ≤ 67108864 by omega)
    have HXY := Lib.hid (show x5 ≤ y5 by omega)
    have WI := Lib.hid (show (Lit.int .i64 i).wf = true from WalkArith.wf_i64 (by omega))
    have WJ := Lib.hid (show (Lit.int .i64 j).wf = true from WalkArith.wf_i64 (by omega))
    have HI0 := Lib.hid hi.1
    obtain ⟨b, hbb⟩ : ∃ b, w20.heap.size = b := ⟨_, rfl⟩
    go_wp2_with fail
    obtain ⟨w21, hW⟩ : ∃ u, (w20.alloc (.cells #[.slice A5 n5 c5, .int .i64 x5, .int .i64 y5] 26)).alloc (.cells #[.int .i64 i] 3) = u := ⟨_, rfl⟩
    try rw [hbb]
    try rw [hW]
    have hb2 : Below w20.heap.size w20 w21 := by rw [← hW]; exact bx.below_box2 _ _ _
    have B21 := Lib.hid ((B4.out.trans (hb5.mono B4.out.size)).trans (hb2.mono (B4.out.trans (hb5.mono B4.out.size)).size))
    have X21 := Lib.hid (show bx.Bx 26 w21 b #[.slice A5 n5 c5, .int .i64 x5, .int .i64 y5] by rw [← hW, ← hbb]; exact (bx.Bx.made _ _ _).below (bx.below_box _ _))
    have R21 := Lib.hid (ho5.rd.below hb2)
    have L21 := Lib.hid (show Rd .i64 w21 (b + 1) (b + 2) (some ⟨b + 1, 0, none⟩) 1 1 [i] by rw [← hW, ← hbb]; have hh := Rd.one .i64 3 (w20.alloc (.cells #[.slice A5 n5 c5, .int .i64 x5, .int .i64 y5] 26)) i WI.out; simpa using hh)
    clear hn5 hin5 hi hj hk ho5 hb5 hl5 hW hb2 hbb B4 D4
    (with_reducible refine (bx.implRf A5 n5 c5 x5 y5 z5 _ 1 1 [i] j _ _ _ _ _ R21.out L21.out HL5.out SM.out).mono ?_)
    rintro e w22 ⟨one, rfl, hr1, hb⟩
    have HO := Lib.hid (rf_one hr1 HI0.out HXY.out)
    clear hr1
    have B22 := Lib.hid (B21.out.trans (hb.mono B21.out.size))
    have X22 := Lib.hid (X21.out.below hb)
    have R22 := Lib.hid (R21.out.below hb)
    clear hb B21 X21 R21
    clear L21
    have c0 : w22.cell? ⟨b, 0, none⟩ = some (.slice A5 n5 c5) := X22.out.cell 0
    have c1 : w22.cell? ⟨b, 1, none⟩ = some (.int .i64 x5) := X22.out.cell 1
    have c2 : w22.cell? ⟨b, 2, none⟩ = some (.int .i64 y5) := X22.out.cell 2
    go_wp2_with fail
    clear c0 c1 c2
    (with_reducible refine (bx.implEx A5 n5 c5 x5 y5 z5 i j k 0 _ _ _ R22.out HL5.out SM.out WI.out WJ.out).mono ?_)
    rintro e w23 ⟨ex, rfl, hex, hb⟩
    have HE := Lib.hid hex
    clear hex
    have B23 := Lib.hid (B22.out.trans (hb.mono B22.out.size))
    have X23 := Lib.hid (X22.out.below hb)
    have R23 := Lib.hid (R22.out.below hb)
    clear hb B22 X22 R22
    have c0 : w23.cell? ⟨b, 0, none⟩ = some (.slice A5 n5 c5) := X23.out.cell 0
    have c1 : w23.cell? ⟨b, 1, none⟩ = some (.int .i64 x5) := X23.out.cell 1
    have c2 : w23.cell? ⟨b, 2, none⟩ = some (.int .i64 y5) := X23.out.cell 2
    cases hw : win z5 x5 i j with
    | false =>
      have HW := Lib.hid hw
      have h1 : ¬ one = i := fun h => by have := HO.out.1 h; rw [hw] at this; cases this
      have h2 : (one == i) = false := by simpa using h1
      clear h1 hw
      go_wp2_with fail
      (with_reducible refine (bx.implCr A5 n5 c5 x5 y5 z5 i j _ _ _ R23.out).mono ?_)
      rintro e w24 hp
      obtain ⟨rfl, hb⟩ := bx.b_parts HW.out hp
      clear hp c0 c1 c2
      have B24 := Lib.hid (B23.out.trans (hb.mono B23.out.size))
      have X24 := Lib.hid (X23.out.below hb)
      have R24 := Lib.hid (R23.out.below hb)
      clear hb B23 X23 R23
      have c0 : ∀ o, (w24.alloc o).cell? ⟨b, 0, none⟩ = some (.slice A5 n5 c5) := fun o => (X24.out.below (bx.below_box _ _)).cell 0
      have c1 : ∀ o, (w24.alloc o).cell? ⟨b, 1, none⟩ = some (.int .i64 x5) := fun o => (X24.out.below (bx.below_box _ _)).cell 1
      have c2 : ∀ o, (w24.alloc o).cell? ⟨b, 2, none⟩ = some (.int .i64 y5) := fun o => (X24.out.below (bx.below_box _ _)).cell 2
      have d0 : w24.cell? ⟨b, 0, none⟩ = some (.slice A5 n5 c5) := X24.out.cell 0
      have d1 : w24.cell? ⟨b, 1, none⟩ = some (.int .i64 x5) := X24.out.cell 1
      have d2 : w24.cell? ⟨b, 2, none⟩ = some (.int .i64 y5) := X24.out.cell 2
      go_wp2_with fail
      clear c0 c1 c2 d0 d1 d2
      obtain ⟨w25, hW⟩ : ∃ u, w24.alloc (.cells #[.int .i64 i, .int .i64 j] 3) = u := ⟨_, rfl⟩
      rw [hW]
      have hb : Below w24.heap.size w24 w25 := by rw [← hW]; exact bx.below_box _ _
      have L25 := Lib.hid (show Rd .i64 w25 w24.heap.size w25.heap.size (some ⟨w24.heap.size, 0, none⟩) 2 2 [i, j] by rw [← hW]; exact (Ow.lit (E := 3) (k := .i64) (n := 2) w24 #[.int .i64 i, .int .i64 j] [i, j] rfl (bx.wf_two WI.out WJ.out) (by simp [maxLen]) rfl).rd)
      clear hW
      have B25 := Lib.hid (B24.out.trans (hb.mono B24.out.size))
      have X25 := Lib.hid (X24.out.below hb)
      have R25 := Lib.hid (R24.out.below hb)
      clear hb B24 X24 R24
      (with_reducible refine (bx.implRf A5 n5 c5 x5 y5 z5 _ 2 2 [i, j] j _ _ _ _ _ R25.out L25.out HL5.out SM.out).mono ?_)
      rintro e w26 ⟨r2, rfl, hr2, hb⟩
      obtain rfl := rf_self hr2
      clear hr2 L25
      have B26 := Lib.hid (B25.out.trans (hb.mono B25.out.size))
      have X26 := Lib.hid (X25.out.below hb)
      have R26 := Lib.hid (R25.out.below hb)
      clear hb B25 X25 R25
      have c0 : w26.cell? ⟨b, 0, none⟩ = some (.slice A5 n5 c5) := X26.out.cell 0
      have c1 : w26.cell? ⟨b, 1, none⟩ = some (.int .i64 x5) := X26.out.cell 1
      have c2 : w26.cell? ⟨b, 2, none⟩ = some (.int .i64 y5) := X26.out.cell 2
      cases ex with
      | false =>
        go_wp2_with fail
        go_ret
        exact ⟨rfl, B26.out⟩
      | true =>
        have HV := Lib.hid (HE.out rfl).1
        have HF := Lib.hid (HE.out rfl).2
        go_wp2_with fail
        (with_reducible refine (bx.implCs A5 n5 c5 x5 y5 z5 i j _ _ _ R26.out).mono ?_)
        rintro e w27 hp
        obtain ⟨rfl, hb⟩ := bx.b_parts HV.out hp
        clear hp c0 c1 c2
        have B27 := Lib.hid (B26.out.trans (hb.mono B26.out.size))
        have X27 := Lib.hid (X26.out.below hb)
        have R27 := Lib.hid (R26.out.below hb)
        clear hb B26 X26 R26
        have c0 : ∀ o, (w27.alloc o).cell? ⟨b, 0, none⟩ = some (.slice A5 n5 c5) := fun o => (X27.out.below (bx.below_box _ _)).cell 0
        have c1 : ∀ o, (w27.alloc o).cell? ⟨b, 1, none⟩ = some (.int .i64 x5) := fun o => (X27.out.below (bx.below_box _ _)).cell 1
        have c2 : ∀ o, (w27.alloc o).cell? ⟨b, 2, none⟩ = some (.int .i64 y5) := fun o => (X27.out.below (bx.below_box _ _)).cell 2
        have d0 : w27.cell? ⟨b, 0, none⟩ = some (.slice A5 n5 c5) := X27.out.cell 0
        have d1 : w27.cell? ⟨b, 1, none⟩ = some (.int .i64 x5) := X27.out.cell 1
        have d2 : w27.cell? ⟨b, 2, none⟩ = some (.int .i64 y5) := X27.out.cell 2
        go_wp2_with fail
        clear c0 c1 c2 d0 d1 d2
        obtain ⟨w28, hW⟩ : ∃ u, w27.alloc (.cells #[.int .i64 i, .int .i64 j] 3) = u := ⟨_, rfl⟩
        rw [hW]
        have hb : Below w27.heap.size w27 w28 := by rw [← hW]; exact bx.below_box _ _
        have L28 := Lib.hid (show Rd .i64 w28 w27.heap.size w28.heap.size (some ⟨w27.heap.size, 0, none⟩) 2 2 [i, j] by rw [← hW]; exact (Ow.lit (E := 3) (k := .i64) (n := 2) w27 #[.int .i64 i, .int .i64 j] [i, j] rfl (bx.wf_two WI.out WJ.out) (by simp [maxLen]) rfl).rd)
        clear hW
        have B28 := Lib.hid (B27.out.trans (hb.mono B27.out.size))
        have X28 := Lib.hid (X27.out.below hb)
        have R28 := Lib.hid (R27.out.below hb)
        clear hb B27 X27 R27
        (with_reducible refine (bx.implRf A5 n5 c5 x5 y5 z5 _ 2 2 [i, j] k _ _ _ _ _ R28.out L28.out HL5.out SM.out).mono ?_)
        rintro e w29 ⟨r3, rfl, hr3, hb⟩
        obtain rfl := hr3.eq HF.out
        clear hr3 L28
        have B29 := Lib.hid (B28.out.trans (hb.mono B28.out.size))
        have X29 := Lib.hid (X28.out.below hb)
        have R29 := Lib.hid (R28.out.below hb)
        clear hb B28 X28 R28
        go_wp2_with fail
        go_ret
        exact ⟨rfl, B29.out⟩
    | true =>
      have HW := Lib.hid hw
      have h1 : one = i := HO.out.2 hw
      have h2 : (one == i) = true := by simpa using h1
      have HQ := Lib.hid h1
      clear h1 hw
      go_wp2_with fail
      (with_reducible refine (bx.implCr A5 n5 c5 x5 y5 z5 i j _ _ _ R23.out).mono ?_)
      rintro e w24 hp
      obtain ⟨rfl, hb⟩ := bx.b_parts HW.out hp
      clear hp c0 c1 c2
      have B24 := Lib.hid (B23.out.trans (hb.mono B23.out.size))
      have X24 := Lib.hid (X23.out.below hb)
      have R24 := Lib.hid (R23.out.below hb)
      clear hb B23 X23 R23
      have c0 : ∀ o, (w24.alloc o).cell? ⟨b, 0, none⟩ = some (.slice A5 n5 c5) := fun o => (X24.out.below (bx.below_box _ _)).cell 0
      have c1 : ∀ o, (w24.alloc o).cell? ⟨b, 1, none⟩ = some (.int .i64 x5) := fun o => (X24.out.below (bx.below_box _ _)).cell 1
      have c2 : ∀ o, (w24.alloc o).cell? ⟨b, 2, none⟩ = some (.int .i64 y5) := fun o => (X24.out.below (bx.below_box _ _)).cell 2
      have d0 : w24.cell? ⟨b, 0, none⟩ = some (.slice A5 n5 c5) := X24.out.cell 0
      have d1 : w24.cell? ⟨b, 1, none⟩ = some (.int .i64 x5) := X24.out.cell 1
      have d2 : w24.cell? ⟨b, 2, none⟩ = some (.int .i64 y5) := X24.out.cell 2
      go_wp2_with fail
      clear c0 c1 c2 d0 d1 d2
      obtain ⟨w25, hW⟩ : ∃ u, w24.alloc (.cells #[.int .i64 i, .int .i64 j] 3) = u := ⟨_, rfl⟩
      rw [hW]
      have hb : Below w24.heap.size w24 w25 := by rw [← hW]; exact bx.below_box _ _
      have L25 := Lib.hid (show Rd .i64 w25 w24.heap.size w25.heap.size (some ⟨w24.heap.size, 0, none⟩) 2 2 [i, j] by rw [← hW]; exact (Ow.lit (E := 3) (k := .i64) (n := 2) w24 #[.int .i64 i, .int .i64 j] [i, j] rfl (bx.wf_two WI.out WJ.out) (by simp [maxLen]) rfl).rd)
      clear hW
      have B25 := Lib.hid (B24.out.trans (hb.mono B24.out.size))
      have X25 := Lib.hid (X24.out.below hb)
      have R25 := Lib.hid (R24.out.below hb)
      clear hb B24 X24 R24
      (with_reducible refine (bx.implRf A5 n5 c5 x5 y5 z5 _ 2 2 [i, j] j _ _ _ _ _ R25.out L25.out HL5.out SM.out).mono ?_)
      rintro e w26 ⟨r2, rfl, hr2, hb⟩
      obtain rfl := rf_self hr2
      clear hr2 L25
      have B26 := Lib.hid (B25.out.trans (hb.mono B25.out.size))
      have X26 := Lib.hid (X25.out.below hb)
      have R26 := Lib.hid (R25.out.below hb)
      clear hb B25 X25 R25
      have c0 : w26.cell? ⟨b, 0, none⟩ = some (.slice A5 n5 c5) := X26.out.cell 0
      have c1 : w26.cell? ⟨b, 1, none⟩ = some (.int .i64 x5) := X26.out.cell 1
      have c2 : w26.cell? ⟨b, 2, none⟩ = some (.int .i64 y5) := X26.out.cell 2
      cases ex with
      | false =>
        go_wp2_with fail
        go_ret
        exact ⟨rfl, B26.out⟩
      | true =>
        have HV := Lib.hid (HE.out rfl).1
        have HF := Lib.hid (HE.out rfl).2
        go_wp2_with fail
        (with_reducible refine (bx.implCs A5 n5 c5 x5 y5 z5 i j _ _ _ R26.out).mono ?_)
        rintro e w27 hp
        obtain ⟨rfl, hb⟩ := bx.b_parts HV.out hp
        clear hp c0 c1 c2
        have B27 := Lib.hid (B26.out.trans (hb.mono B26.out.size))
        have X27 := Lib.hid (X26.out.below hb)
        have R27 := Lib.hid (R26.out.below hb)
        clear hb B26 X26 R26
        have c0 : ∀ o, (w27.alloc o).cell? ⟨b, 0, none⟩ = some (.slice A5 n5 c5) := fun o => (X27.out.below (bx.below_box _ _)).cell 0
        have c1 : ∀ o, (w27.alloc o).cell? ⟨b, 1, none⟩ = some (.int .i64 x5) := fun o => (X27.out.below (bx.below_box _ _)).cell 1
        have c2 : ∀ o, (w27.alloc o).cell? ⟨b, 2, none⟩ = some (.int .i64 y5) := fun o => (X27.out.below (bx.below_box _ _)).cell 2
        have d0 : w27.cell? ⟨b, 0, none⟩ = some (.slice A5 n5 c5) := X27.out.cell 0
        have d1 : w27.cell? ⟨b, 1, none⟩ = some (.int .i64 x5) := X27.out.cell 1
        have d2 : w27.cell? ⟨b, 2, none⟩ = some (.int .i64 y5) := X27.out.cell 2
        go_wp2_with fail
        clear c0 c1 c2 d0 d1 d2
        obtain ⟨w28, hW⟩ : ∃ u, w27.alloc (.cells #[.int .i64 i, .int .i64 j] 3) = u := ⟨_, rfl⟩
        rw [hW]
        have hb : Below w27.heap.size w27 w28 := by rw [← hW]; exact bx.below_box _ _
        have L28 := Lib.hid (show Rd .i64 w28 w27.heap.size w28.heap.size (some ⟨w27.heap.size, 0, none⟩) 2 2 [i, j] by rw [← hW]; exact (Ow.lit (E := 3) (k := .i64) (n := 2) w27 #[.int .i64 i, .int .i64 j] [i, j] rfl (bx.wf_two WI.out WJ.out) (by simp [maxLen]) rfl).rd)
        clear hW
        have B28 := Lib.hid (B27.out.trans (hb.mono B27.out.size))
        have X28 := Lib.hid (X27.out.below hb)
        have R28 := Lib.hid (R27.out.below hb)
        clear hb B27 X27 R27
        (with_reducible refine (bx.implRf A5 n5 c5 x5 y5 z5 _ 2 2 [i, j] k _ _ _ _ _ R28.out L28.out HL5.out SM.out).mono ?_)
        rintro e w29 ⟨r3, rfl, hr3, hb⟩
        obtain rfl := hr3.eq HF.out
        clear hr3 L28
        have B29 := Lib.hid (B28.out.trans (hb.mono B28.out.size))
        have X29 := Lib.hid (X28.out.below hb)
        have R29 := Lib.hid (R28.out.below hb)
        clear hb B28 X28 R28
        go_wp2_with fail
        go_ret
        exact ⟨rfl, B29.out⟩
end Go.Proofs.Ytichhbkgebimeaa.capLaw
