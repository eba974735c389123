/- The law function of access categories (FnAccess) returns true and leaves what was there. Conditions: the argument is a slice of bytes that came in; the table of parameters reads as laid. -/
import Derived.Test.YthgobaohlcninaaDoorDrawT
namespace Go.Proofs.YthgobaohlcninaaDoor.accLaw
open Go.RowKit sl harn rng acm bx
set_option linter.unusedVariables false

theorem nx_ge {b c x : Int} (h : b ≤ x ∧ x ≤ c) (hb : 1 ≤ b) : x ≤ nx b c x := by
  rw [nx_yes h]; unfold mn; split <;> omega
theorem it_grow {b c : Int} (hb : 1 ≤ b) (hbc : b ≤ c) (k : Nat) : b ≤ it b c k ∧ it b c k ≤ c ∧ (it b c k = c ∨ it b c k + 1 = (b + 1) * 2 ^ k) := by
  induction k with
  | zero => exact ⟨Int.le_refl _, hbc, .inr (by simp [it])⟩
  | succ k ih =>
    obtain ⟨h1, h2, h3⟩ := ih
    have e : it b c (k + 1) = mn (2 * it b c k + 1) c := nx_yes ⟨h1, h2⟩
    rw [e]
    have hp : (b + 1) * 2 ^ (k + 1) = 2 * ((b + 1) * 2 ^ k) := by rw [Int.pow_succ]; rw [← Int.mul_assoc, Int.mul_comm _ 2]
    rw [hp]
    unfold mn
    split
    · exact ⟨hbc, Int.le_refl _, .inl rfl⟩
    · rcases h3 with h3 | h3
      · omega
      · exact ⟨by omega, by omega, .inr (by omega)⟩
theorem it_top {b c : Int} (hb : 1 ≤ b) (hbc : b ≤ c) (hc : c ≤ 1023) : it b c 20 = c := by
  obtain ⟨h1, h2, h3⟩ := it_grow hb hbc 20
  rcases h3 with h3 | h3
  · exact h3
  · have : (2 : Int) ^ 20 = 1048576 := by decide
    rw [this] at h3
    omega
theorem wa_top {a b c d : Int} (h : Vp a b c d) : wa a b c d 20 = c := by
  have h1 := win_in h.low
  have h2 := win_in h.high
  rw [wa_yes (vp_iff.2 h)]; exact it_top h1.1 h.le h2.2
theorem wa_zero {a b c d : Int} (h : Vp a b c d) : wa a b c d 0 = b := by rw [wa_yes (vp_iff.2 h)]; rfl
theorem wa_next {a b c d n : Int} (h : Vp a b c d) (h0 : 0 ≤ n) (h1 : n < 20) : wa a b c d (n + 1) = nw a b c d (wa a b c d n) := by
  rw [wa_yes (vp_iff.2 h), wa_yes (vp_iff.2 h), nw_yes (vp_iff.2 h)]
  have e : cap (n + 1) = cap n + 1 := by unfold cap; rw [if_pos h1]; split <;> omega
  rw [e]; rfl
theorem wa_in {a b c d n : Int} (h : Vp a b c d) : b ≤ wa a b c d n ∧ wa a b c d n ≤ c := by
  rw [wa_yes (vp_iff.2 h)]; exact it_in (win_in h.low) (win_in h.high) h.le _
theorem four_made (E : TypeId) (w : World) (x y z u : Int) (hx : (Lit.int .i64 x).wf = true) (hy : (Lit.int .i64 y).wf = true) (hz : (Lit.int .i64 z).wf = true) (hu : (Lit.int .i64 u).wf = true) : Rd .i64 (w.alloc (.cells #[.int .i64 x, .int .i64 y, .int .i64 z, .int .i64 u] E)) w.heap.size (w.heap.size + 1) (some ⟨w.heap.size, 0, none⟩) 4 4 [x, y, z, u] :=
  ⟨rfl, by omega, by unfold maxLen; omega, by simp, fun v hv => by
    simp only [List.mem_cons, List.not_mem_nil, or_false] at hv
    rcases hv with rfl | rfl | rfl | rfl <;> assumption, fun _ => ⟨_, 0, rfl, Nat.le_refl _, by omega, fun i hi => by
    have : i = 0 ∨ i = 1 ∨ i = 2 ∨ i = 3 := by omega
    rcases this with rfl | rfl | rfl | rfl <;> simp⟩⟩
theorem cnm_ne (k : Int) (h : k = 0 ∨ k = 1 ∨ k = 2) : ((cnm k).toList == (cnm (k + 1)).toList) = false := by
  rw [ByteArray.toList_eq, ByteArray.toList_eq]
  rcases h with rfl | rfl | rfl <;> rfl

set_option maxRecDepth 100000 in
set_option maxHeartbeats 8000000 in
theorem walk (a : Option Addr) (len cap : Nat) (z0 : List Int) (w : World) (r0 : kit.IsRow .u8 w a len cap z0) (h : Tbl w) :
    Calls Tryd.prog 3 #[.slice a len cap] w fun e w' => e = .returned (.bool true) ∧ Below w.heap.size w w' := by
  have HC := Lib.hid (draw.code_of_row r0)
  have HT := Lib.hid h
  have hlen : (len : Int) ≤ 9223372036854775807 := by have := HC.out.1; omega
  clear r0 h
  by_cases hbig : 1048576 < (len : Int)
  · go_enter Tryd.func3, Tryd.ntmps3
    go_wp2
    go_ret
    exact ⟨rfl, Below.refl _ _⟩
  go_enter Tryd.func3, Tryd.ntmps3
  go_wp2_with (go_at_call 5; go_in)
  clear hbig
  go_wp2_with fail
  (with_reducible refine (draw.drawWa _ a len cap HC.out).mono ?_)
  rintro e w1 ⟨x, y, z, u, n, rfl, hn, hb⟩
  have B1 := Lib.hid hb
  have HN := Lib.hid hn
  have T1 := Lib.hid (HT.out.below hb)
  clear hn hb HC HT
  obtain ⟨b, hbb⟩ : ∃ b, b = w1.heap.size := ⟨_, rfl⟩
  obtain ⟨w2, hW⟩ : ∃ w2, w2 = w1.alloc (.cells #[.int .i64 x, .int .i64 y, .int .i64 z, .int .i64 u] 25) := ⟨_, rfl⟩
  have B2 := Lib.hid (show Below w.heap.size w w2 by rw [hW]; exact B1.out.alloc B1.out.size _)
  have X2 := Lib.hid (show Bx 25 w2 b #[.int .i64 x, .int .i64 y, .int .i64 z, .int .i64 u] by rw [hW, hbb]; exact Bx.made _ _ _)
  have T2 := Lib.hid (show Tbl w2 by rw [hW]; exact T1.out.below (below_box _ _))
  go_wp2_with fail
  rw [← hW, ← hbb]
  clear hW hbb B1 T1
  obtain ⟨m, hm⟩ : ∃ m, wa x y z u n = m := ⟨_, rfl⟩
  have HM := Lib.hid hm
  clear hm
  (with_reducible refine (implWa x y z u n _).mono ?_)
  rintro e w3 hp
  obtain ⟨rfl, hb⟩ := n_parts HM.out hp
  clear hp
  have B3 := Lib.hid (B2.out.trans (hb.mono B2.out.size))
  have X3 := Lib.hid (X2.out.below hb)
  have T3 := Lib.hid (T2.out.below hb)
  clear hb B2 X2 T2
  obtain ⟨v, hv⟩ : ∃ v, vp x y z u = v := ⟨_, rfl⟩
  have HV := Lib.hid hv
  clear hv
  have c0 : w3.cell? ⟨b, 0, none⟩ = some (.int .i64 x) := X3.out.cell 0
  have c1 : w3.cell? ⟨b, 1, none⟩ = some (.int .i64 y) := X3.out.cell 1
  have c2 : w3.cell? ⟨b, 2, none⟩ = some (.int .i64 z) := X3.out.cell 2
  have c3 : w3.cell? ⟨b, 3, none⟩ = some (.int .i64 u) := X3.out.cell 3
  go_wp2_with fail
  clear c0 c1 c2 c3
  (with_reducible refine (specVp x y z u _).mono ?_)
  rintro e w4 hp
  obtain ⟨rfl, hb⟩ := b_parts HV.out hp
  clear hp
  have B4 := Lib.hid (B3.out.trans (hb.mono B3.out.size))
  have X4 := Lib.hid (X3.out.below hb)
  have T4 := Lib.hid (T3.out.below hb)
  clear hb B3 X3 T3
  have c0 : w4.cell? ⟨b, 0, none⟩ = some (.int .i64 x) := X4.out.cell 0
  have c1 : w4.cell? ⟨b, 1, none⟩ = some (.int .i64 y) := X4.out.cell 1
  have c2 : w4.cell? ⟨b, 2, none⟩ = some (.int .i64 z) := X4.out.cell 2
  have c3 : w4.cell? ⟨b, 3, none⟩ = some (.int .i64 u) := X4.out.cell 3
  cases v with
  | false =>
    have hz : m = 0 := by rw [← HM.out, wa_no HV.out]
    subst hz
    go_wp2_with fail
    clear c0 c1 c2 c3
    (with_reducible refine (implVp x y z u _).mono ?_)
    rintro e w5 hp
    obtain ⟨rfl, hb⟩ := b_parts HV.out hp
    clear hp
    have B5 := Lib.hid (B4.out.trans (hb.mono B4.out.size))
    have X5 := Lib.hid (X4.out.below hb)
    have T5 := Lib.hid (T4.out.below hb)
    clear hb B4 X4 T4
    go_wp2_with fail
    go_ret
    exact ⟨rfl, B5.out⟩
  | true =>
    have HQ := Lib.hid (vp_iff.1 HV.out)
    have hin := wa_in (n := n) HQ.out
    rw [HM.out] at hin
    obtain ⟨m0, m1⟩ := hin
    have hy1 := (win_in HQ.out.low).1
    go_wp2_with fail
    clear c0 c1 c2 c3
    obtain ⟨g, hg⟩ : ∃ g, nw x y z u m = g := ⟨_, rfl⟩
    have hgm : m ≤ g := by rw [← hg, nw_yes HV.out]; exact nx_ge ⟨m0, m1⟩ hy1
    have HG := Lib.hid hg
    have HZ := Lib.hid (wa_top HQ.out)
    have HY := Lib.hid (wa_zero HQ.out)
    clear hg
    have d1 : decide (m < y) = false := decide_eq_false (by omega)
    have d2 : decide (m > z) = false := decide_eq_false (by omega)
    have d3 : decide (z < m) = false := decide_eq_false (by omega)
    have d4 : decide (g < m) = false := decide_eq_false (by omega)
    obtain ⟨h21, h22⟩ := HN.out
    by_cases hr : 0 ≤ n ∧ n < 20
    · obtain ⟨p, hp⟩ : ∃ p, n + 1 = p := ⟨_, rfl⟩
      have HP := Lib.hid (show wa x y z u p = g by rw [← hp, wa_next HQ.out hr.1 hr.2, HM.out, HG.out])
      have n1 : IntKind.i64.wrap p = p := IntWalk.i64_in _ (by omega)
      have n2 : decide (n ≥ 0) = true := decide_eq_true hr.1
      have n3 : decide (0 ≤ n) = true := decide_eq_true hr.1
      have n4 : decide (n < 20) = true := decide_eq_true hr.2
      clear hr
      have c0 : ∀ q : Af w4, q.w.cell? ⟨b, 0, none⟩ = some (.int .i64 x) := fun q => (Af.cells X4.out q).cell 0
      have c1 : ∀ q : Af w4, q.w.cell? ⟨b, 1, none⟩ = some (.int .i64 y) := fun q => (Af.cells X4.out q).cell 1
      have c2 : ∀ q : Af w4, q.w.cell? ⟨b, 2, none⟩ = some (.int .i64 z) := fun q => (Af.cells X4.out q).cell 2
      have c3 : ∀ q : Af w4, q.w.cell? ⟨b, 3, none⟩ = some (.int .i64 u) := fun q => (Af.cells X4.out q).cell 3
      have k0 := Lib.hid (fun q => by have hh := implNw x y z u m q.w; rw [HG.out] at hh; exact hh : ∀ q : Af w4, Calls Tryd.prog 10 #[.agg #[.int .i64 x, .int .i64 y, .int .i64 z, .int .i64 u], .int .i64 m] q.w fun e w' => e = .returned (.int .i64 g) ∧ Below q.w.heap.size q.w w')
      have k1 := Lib.hid (fun q => by have hh := implWa x y z u 20 q.w; rw [HZ.out] at hh; exact hh : ∀ q : Af w4, Calls Tryd.prog 7 #[.agg #[.int .i64 x, .int .i64 y, .int .i64 z, .int .i64 u], .int .i64 20] q.w fun e w' => e = .returned (.int .i64 z) ∧ Below q.w.heap.size q.w w')
      have k2 := Lib.hid (fun q => by have hh := implWa x y z u 0 q.w; rw [HY.out] at hh; exact hh : ∀ q : Af w4, Calls Tryd.prog 7 #[.agg #[.int .i64 x, .int .i64 y, .int .i64 z, .int .i64 u], .int .i64 0] q.w fun e w' => e = .returned (.int .i64 y) ∧ Below q.w.heap.size q.w w')
      have k3 := Lib.hid (fun q => by have hh := implWa x y z u p q.w; rw [HP.out] at hh; exact hh : ∀ q : Af w4, Calls Tryd.prog 7 #[.agg #[.int .i64 x, .int .i64 y, .int .i64 z, .int .i64 u], .int .i64 p] q.w fun e w' => e = .returned (.int .i64 g) ∧ Below q.w.heap.size q.w w')
      refine bx.region_after (by kernel_rfl) (by kernel_rfl) ?_
      repeat (go_big_quiet_step ((first
        | (go_at_call 10; with_reducible exact Af.call (k0.out _))
        | (go_at_call 7; with_reducible exact Af.call (k1.out _))
        | (go_at_call 7; with_reducible exact Af.call (k2.out _))
        | (go_at_call 7; with_reducible exact Af.call (k3.out _)))))
      refine wpQuiet_nil ?_
      intro _ hw'
      obtain ⟨nq, hw''⟩ := hw'
      subst hw''
      have BQ := Lib.hid (B4.out.trans (nq.below.mono B4.out.size))
      have TQ := Lib.hid (T4.out.below nq.below)
      obtain ⟨w5, hw5⟩ : ∃ w5, nq.w = w5 := ⟨_, rfl⟩
      rw [hw5] at BQ TQ
      rw [hw5]
      clear hw5 c0 c1 c2 c3 k0 k1 k2 k3
      clear n1 n2 n3 n4 hp h21 h22 HP HN
      clear d1 d2 d3 d4 hgm m0 m1 hy1 HG HZ HY HQ HV HM X4 T4 B4
      go_wp2_with fail
      go_loopw [6] (fun i wr => ∃ k : Nat, i = .int .i64 k ∧ k ≤ 3 ∧ Below w5.heap.size w5 wr) (fun i _ => 3 - (intOf i).toNat)
      case atStart => exact ⟨0, rfl, by omega, Below.refl _ _⟩
      case round =>
        obtain ⟨k, rfl, hk, hb⟩ := hrel
        have B6 := Lib.hid (BQ.out.trans (hb.mono BQ.out.size))
        have T6 := Lib.hid (TQ.out.below hb)
        have D6 := Lib.hid hb
        clear hb
        have hk4 : k = 0 ∨ k = 1 ∨ k = 2 ∨ k = 3 := by omega
        clear hk
        rcases hk4 with rfl | rfl | rfl | rfl
        · go_wp2_with fail
          (with_reducible refine (implPar 0 _ T6.out).mono ?_)
          rintro e w7 ⟨rfl, hb⟩
          have D7 := Lib.hid (D6.out.trans (hb.mono D6.out.size))
          have T7 := Lib.hid (T6.out.below hb)
          clear hb
          obtain ⟨b1, hb1⟩ : ∃ b1, b1 = w7.heap.size := ⟨_, rfl⟩
          obtain ⟨w8, hW⟩ : ∃ w8, w8 = w7.alloc (.cells #[.int .i64 7, .int .i64 15, .int .i64 1023, .int .i64 10] 25) := ⟨_, rfl⟩
          have D8 := Lib.hid (show Below w5.heap.size w5 w8 by rw [hW]; exact D7.out.alloc D7.out.size _)
          have X8 := Lib.hid (show Bx 25 w8 b1 #[.int .i64 7, .int .i64 15, .int .i64 1023, .int .i64 10] by rw [hW, hb1]; exact Bx.made _ _ _)
          have T8 := Lib.hid (show Tbl w8 by rw [hW]; exact T7.out.below (below_box _ _))
          rw [show pvs 0 = (7, 15, 1023, 10) by rfl]
          go_wp2_with fail
          rw [← hW, ← hb1]
          clear hW hb1 D7 T7
          (with_reducible refine (implPar 1 _ T8.out).mono ?_)
          rintro e w9 ⟨rfl, hb⟩
          have D9 := Lib.hid (D8.out.trans (hb.mono D8.out.size))
          have X9 := Lib.hid (X8.out.below hb)
          clear hb D8 X8 T8
          obtain ⟨b2, hb2⟩ : ∃ b2, b2 = w9.heap.size := ⟨_, rfl⟩
          obtain ⟨wa, hW⟩ : ∃ wa, wa = w9.alloc (.cells #[.int .i64 3, .int .i64 15, .int .i64 1023, .int .i64 10] 25) := ⟨_, rfl⟩
          have DA := Lib.hid (show Below w5.heap.size w5 wa by rw [hW]; exact D9.out.alloc D9.out.size _)
          have XA := Lib.hid (show Bx 25 wa b1 #[.int .i64 7, .int .i64 15, .int .i64 1023, .int .i64 10] by rw [hW]; exact X9.out.below (below_box _ _))
          have YA := Lib.hid (show Bx 25 wa b2 #[.int .i64 3, .int .i64 15, .int .i64 1023, .int .i64 10] by rw [hW, hb2]; exact Bx.made _ _ _)
          have c0 : wa.cell? ⟨b1, 0, none⟩ = some (.int .i64 7) := XA.out.cell 0
          have c1 : wa.cell? ⟨b1, 1, none⟩ = some (.int .i64 15) := XA.out.cell 1
          have c2 : wa.cell? ⟨b1, 2, none⟩ = some (.int .i64 1023) := XA.out.cell 2
          have c3 : wa.cell? ⟨b1, 3, none⟩ = some (.int .i64 10) := XA.out.cell 3
          rw [hW] at c0 c1 c2 c3
          rw [show pvs 1 = (3, 15, 1023, 10) by rfl]
          go_wp2_with fail
          rw [← hW, ← hb2]
          clear hW hb2 D9 X9 c0 c1 c2 c3
          (with_reducible refine (implVp 7 15 1023 10 _).mono ?_)
          rintro e wb hp
          obtain ⟨rfl, hb⟩ := b_parts (show vp 7 15 1023 10 = true by decide) hp
          have DB := Lib.hid (DA.out.trans (hb.mono DA.out.size))
          have XB := Lib.hid (XA.out.below hb)
          have YB := Lib.hid (YA.out.below hb)
          clear hp hb DA XA YA
          have c0 : wb.cell? ⟨b1, 0, none⟩ = some (.int .i64 7) := XB.out.cell 0
          have c1 : wb.cell? ⟨b1, 1, none⟩ = some (.int .i64 15) := XB.out.cell 1
          have c2 : wb.cell? ⟨b1, 2, none⟩ = some (.int .i64 1023) := XB.out.cell 2
          have c3 : wb.cell? ⟨b1, 3, none⟩ = some (.int .i64 10) := XB.out.cell 3
          have y0 : wb.cell? ⟨b2, 0, none⟩ = some (.int .i64 3) := YB.out.cell 0
          have y1 : wb.cell? ⟨b2, 1, none⟩ = some (.int .i64 15) := YB.out.cell 1
          have y2 : wb.cell? ⟨b2, 2, none⟩ = some (.int .i64 1023) := YB.out.cell 2
          have y3 : wb.cell? ⟨b2, 3, none⟩ = some (.int .i64 10) := YB.out.cell 3
          obtain ⟨s1, hs1⟩ : ∃ s1, cnm 0 = s1 := ⟨_, rfl⟩
          obtain ⟨s2, hs2⟩ : ∃ s2, cnm 1 = s2 := ⟨_, rfl⟩
          have hne : (s1.toList == s2.toList) = false := by rw [← hs1, ← hs2]; exact cnm_ne 0 (by omega)
          have H1 := Lib.hid hs1
          have H2 := Lib.hid hs2
          clear hs1 hs2
          go_wp2_with fail
          clear c0 c1 c2 c3 y0 y1 y2 y3
          (with_reducible refine (implCnm 0 _).mono ?_)
          rintro e wc hp
          obtain ⟨rfl, hb⟩ := t_parts H1.out hp
          have DC := Lib.hid (DB.out.trans (hb.mono DB.out.size))
          clear hp hb
          go_wp2_with fail
          (with_reducible refine (implCnm 1 _).mono ?_)
          rintro e wd hp
          obtain ⟨rfl, hb⟩ := t_parts H2.out hp
          have DD := Lib.hid (DC.out.trans (hb.mono DC.out.size))
          clear hp hb
          go_wp2_with fail
          go_roundw
          case rel => exact ⟨1, by go_num, by omega, DD.out⟩
          case measure => simp [intOf]
        · go_wp2_with fail
          (with_reducible refine (implPar 1 _ T6.out).mono ?_)
          rintro e w7 ⟨rfl, hb⟩
          have D7 := Lib.hid (D6.out.trans (hb.mono D6.out.size))
          have T7 := Lib.hid (T6.out.below hb)
          clear hb
          obtain ⟨b1, hb1⟩ : ∃ b1, b1 = w7.heap.size := ⟨_, rfl⟩
          obtain ⟨w8, hW⟩ : ∃ w8, w8 = w7.alloc (.cells #[.int .i64 3, .int .i64 15, .int .i64 1023, .int .i64 10] 25) := ⟨_, rfl⟩
          have D8 := Lib.hid (show Below w5.heap.size w5 w8 by rw [hW]; exact D7.out.alloc D7.out.size _)
          have X8 := Lib.hid (show Bx 25 w8 b1 #[.int .i64 3, .int .i64 15, .int .i64 1023, .int .i64 10] by rw [hW, hb1]; exact Bx.made _ _ _)
          have T8 := Lib.hid (show Tbl w8 by rw [hW]; exact T7.out.below (below_box _ _))
          rw [show pvs 1 = (3, 15, 1023, 10) by rfl]
          go_wp2_with fail
          rw [← hW, ← hb1]
          clear hW hb1 D7 T7
          (with_reducible refine (implPar 2 _ T8.out).mono ?_)
          rintro e w9 ⟨rfl, hb⟩
          have D9 := Lib.hid (D8.out.trans (hb.mono D8.out.size))
          have X9 := Lib.hid (X8.out.below hb)
          clear hb D8 X8 T8
          obtain ⟨b2, hb2⟩ : ∃ b2, b2 = w9.heap.size := ⟨_, rfl⟩
          obtain ⟨wa, hW⟩ : ∃ wa, wa = w9.alloc (.cells #[.int .i64 2, .int .i64 7, .int .i64 15, .int .i64 40] 25) := ⟨_, rfl⟩
          have DA := Lib.hid (show Below w5.heap.size w5 wa by rw [hW]; exact D9.out.alloc D9.out.size _)
          have XA := Lib.hid (show Bx 25 wa b1 #[.int .i64 3, .int .i64 15, .int .i64 1023, .int .i64 10] by rw [hW]; exact X9.out.below (below_box _ _))
          have YA := Lib.hid (show Bx 25 wa b2 #[.int .i64 2, .int .i64 7, .int .i64 15, .int .i64 40] by rw [hW, hb2]; exact Bx.made _ _ _)
          have c0 : wa.cell? ⟨b1, 0, none⟩ = some (.int .i64 3) := XA.out.cell 0
          have c1 : wa.cell? ⟨b1, 1, none⟩ = some (.int .i64 15) := XA.out.cell 1
          have c2 : wa.cell? ⟨b1, 2, none⟩ = some (.int .i64 1023) := XA.out.cell 2
          have c3 : wa.cell? ⟨b1, 3, none⟩ = some (.int .i64 10) := XA.out.cell 3
          rw [hW] at c0 c1 c2 c3
          rw [show pvs 2 = (2, 7, 15, 40) by rfl]
          go_wp2_with fail
          rw [← hW, ← hb2]
          clear hW hb2 D9 X9 c0 c1 c2 c3
          (with_reducible refine (implVp 3 15 1023 10 _).mono ?_)
          rintro e wb hp
          obtain ⟨rfl, hb⟩ := b_parts (show vp 3 15 1023 10 = true by decide) hp
          have DB := Lib.hid (DA.out.trans (hb.mono DA.out.size))
          have XB := Lib.hid (XA.out.below hb)
          have YB := Lib.hid (YA.out.below hb)
          clear hp hb DA XA YA
          have c0 : wb.cell? ⟨b1, 0, none⟩ = some (.int .i64 3) := XB.out.cell 0
          have c1 : wb.cell? ⟨b1, 1, none⟩ = some (.int .i64 15) := XB.out.cell 1
          have c2 : wb.cell? ⟨b1, 2, none⟩ = some (.int .i64 1023) := XB.out.cell 2
          have c3 : wb.cell? ⟨b1, 3, none⟩ = some (.int .i64 10) := XB.out.cell 3
          have y0 : wb.cell? ⟨b2, 0, none⟩ = some (.int .i64 2) := YB.out.cell 0
          have y1 : wb.cell? ⟨b2, 1, none⟩ = some (.int .i64 7) := YB.out.cell 1
          have y2 : wb.cell? ⟨b2, 2, none⟩ = some (.int .i64 15) := YB.out.cell 2
          have y3 : wb.cell? ⟨b2, 3, none⟩ = some (.int .i64 40) := YB.out.cell 3
          obtain ⟨s1, hs1⟩ : ∃ s1, cnm 1 = s1 := ⟨_, rfl⟩
          obtain ⟨s2, hs2⟩ : ∃ s2, cnm 2 = s2 := ⟨_, rfl⟩
          have hne : (s1.toList == s2.toList) = false := by rw [← hs1, ← hs2]; exact cnm_ne 1 (by omega)
          have H1 := Lib.hid hs1
          have H2 := Lib.hid hs2
          clear hs1 hs2
          go_wp2_with fail
          clear c0 c1 c2 c3 y0 y1 y2 y3
          (with_reducible refine (implCnm 1 _).mono ?_)
          rintro e wc hp
          obtain ⟨rfl, hb⟩ := t_parts H1.out hp
          have DC := Lib.hid (DB.out.trans (hb.mono DB.out.size))
          clear hp hb
          go_wp2_with fail
          (with_reducible refine (implCnm 2 _).mono ?_)
          rintro e wd hp
          obtain ⟨rfl, hb⟩ := t_parts H2.out hp
          have DD := Lib.hid (DC.out.trans (hb.mono DC.out.size))
          clear hp hb
          go_wp2_with fail
          go_roundw
          case rel => exact ⟨2, by go_num, by omega, DD.out⟩
          case measure => simp [intOf]
        · go_wp2_with fail
          (with_reducible refine (implPar 2 _ T6.out).mono ?_)
          rintro e w7 ⟨rfl, hb⟩
          have D7 := Lib.hid (D6.out.trans (hb.mono D6.out.size))
          have T7 := Lib.hid (T6.out.below hb)
          clear hb
          obtain ⟨b1, hb1⟩ : ∃ b1, b1 = w7.heap.size := ⟨_, rfl⟩
          obtain ⟨w8, hW⟩ : ∃ w8, w8 = w7.alloc (.cells #[.int .i64 2, .int .i64 7, .int .i64 15, .int .i64 40] 25) := ⟨_, rfl⟩
          have D8 := Lib.hid (show Below w5.heap.size w5 w8 by rw [hW]; exact D7.out.alloc D7.out.size _)
          have X8 := Lib.hid (show Bx 25 w8 b1 #[.int .i64 2, .int .i64 7, .int .i64 15, .int .i64 40] by rw [hW, hb1]; exact Bx.made _ _ _)
          have T8 := Lib.hid (show Tbl w8 by rw [hW]; exact T7.out.below (below_box _ _))
          rw [show pvs 2 = (2, 7, 15, 40) by rfl]
          go_wp2_with fail
          rw [← hW, ← hb1]
          clear hW hb1 D7 T7
          (with_reducible refine (implPar 3 _ T8.out).mono ?_)
          rintro e w9 ⟨rfl, hb⟩
          have D9 := Lib.hid (D8.out.trans (hb.mono D8.out.size))
          have X9 := Lib.hid (X8.out.below hb)
          clear hb D8 X8 T8
          obtain ⟨b2, hb2⟩ : ∃ b2, b2 = w9.heap.size := ⟨_, rfl⟩
          obtain ⟨wa, hW⟩ : ∃ wa, wa = w9.alloc (.cells #[.int .i64 2, .int .i64 3, .int .i64 7, .int .i64 20] 25) := ⟨_, rfl⟩
          have DA := Lib.hid (show Below w5.heap.size w5 wa by rw [hW]; exact D9.out.alloc D9.out.size _)
          have XA := Lib.hid (show Bx 25 wa b1 #[.int .i64 2, .int .i64 7, .int .i64 15, .int .i64 40] by rw [hW]; exact X9.out.below (below_box _ _))
          have YA := Lib.hid (show Bx 25 wa b2 #[.int .i64 2, .int .i64 3, .int .i64 7, .int .i64 20] by rw [hW, hb2]; exact Bx.made _ _ _)
          have c0 : wa.cell? ⟨b1, 0, none⟩ = some (.int .i64 2) := XA.out.cell 0
          have c1 : wa.cell? ⟨b1, 1, none⟩ = some (.int .i64 7) := XA.out.cell 1
          have c2 : wa.cell? ⟨b1, 2, none⟩ = some (.int .i64 15) := XA.out.cell 2
          have c3 : wa.cell? ⟨b1, 3, none⟩ = some (.int .i64 40) := XA.out.cell 3
          rw [hW] at c0 c1 c2 c3
          rw [show pvs 3 = (2, 3, 7, 20) by rfl]
          go_wp2_with fail
          rw [← hW, ← hb2]
          clear hW hb2 D9 X9 c0 c1 c2 c3
          (with_reducible refine (implVp 2 7 15 40 _).mono ?_)
          rintro e wb hp
          obtain ⟨rfl, hb⟩ := b_parts (show vp 2 7 15 40 = true by decide) hp
          have DB := Lib.hid (DA.out.trans (hb.mono DA.out.size))
          have XB := Lib.hid (XA.out.below hb)
          have YB := Lib.hid (YA.out.below hb)
          clear hp hb DA XA YA
          have c0 : wb.cell? ⟨b1, 0, none⟩ = some (.int .i64 2) := XB.out.cell 0
          have c1 : wb.cell? ⟨b1, 1, none⟩ = some (.int .i64 7) := XB.out.cell 1
          have c2 : wb.cell? ⟨b1, 2, none⟩ = some (.int .i64 15) := XB.out.cell 2
          have c3 : wb.cell? ⟨b1, 3, none⟩ = some (.int .i64 40) := XB.out.cell 3
          have y0 : wb.cell? ⟨b2, 0, none⟩ = some (.int .i64 2) := YB.out.cell 0
          have y1 : wb.cell? ⟨b2, 1, none⟩ = some (.int .i64 3) := YB.out.cell 1
          have y2 : wb.cell? ⟨b2, 2, none⟩ = some (.int .i64 7) := YB.out.cell 2
          have y3 : wb.cell? ⟨b2, 3, none⟩ = some (.int .i64 20) := YB.out.cell 3
          obtain ⟨s1, hs1⟩ : ∃ s1, cnm 2 = s1 := ⟨_, rfl⟩
          obtain ⟨s2, hs2⟩ : ∃ s2, cnm 3 = s2 := ⟨_, rfl⟩
          have hne : (s1.toList == s2.toList) = false := by rw [← hs1, ← hs2]; exact cnm_ne 2 (by omega)
          have H1 := Lib.hid hs1
          have H2 := Lib.hid hs2
          clear hs1 hs2
          go_wp2_with fail
          clear c0 c1 c2 c3 y0 y1 y2 y3
          (with_reducible refine (implCnm 2 _).mono ?_)
          rintro e wc hp
          obtain ⟨rfl, hb⟩ := t_parts H1.out hp
          have DC := Lib.hid (DB.out.trans (hb.mono DB.out.size))
          clear hp hb
          go_wp2_with fail
          (with_reducible refine (implCnm 3 _).mono ?_)
          rintro e wd hp
          obtain ⟨rfl, hb⟩ := t_parts H2.out hp
          have DD := Lib.hid (DC.out.trans (hb.mono DC.out.size))
          clear hp hb
          go_wp2_with fail
          go_roundw
          case rel => exact ⟨3, by go_num, by omega, DD.out⟩
          case measure => simp [intOf]
        · go_wp2_with fail
          (with_reducible refine (implIw [0, 2, 9, 1] _ _ _ 4 4 _ (four_made _ wr 0 2 9 1 rfl rfl rfl rfl)).mono ?_)
          rintro e w7 hp
          obtain ⟨rfl, hb⟩ := n_parts (show best [0, 2, 9, 1] [0, 2, 9, 1].length = 2 by decide) hp
          have D7 := Lib.hid ((D6.out.alloc D6.out.size _).trans (hb.mono (D6.out.alloc D6.out.size _).size))
          clear hp hb
          go_wp2_with fail
          (with_reducible refine (implIw [7] _ _ _ 1 1 _ (Rd.one .i64 _ w7 7 rfl)).mono ?_)
          rintro e w8 hp
          obtain ⟨rfl, hb⟩ := n_parts (show best [7] [7].length = -1 by decide) hp
          have D8 := Lib.hid ((D7.out.alloc D7.out.size _).trans (hb.mono (D7.out.alloc D7.out.size _).size))
          clear hp hb
          go_wp2_with fail
          (with_reducible refine (implCop 7 _).mono ?_)
          rintro e w9 hp
          obtain ⟨rfl, hb⟩ := n_parts (show cop 7 = 3 by decide) hp
          have D9 := Lib.hid (D8.out.trans (hb.mono D8.out.size))
          clear hp hb
          go_wp2_with fail
          (with_reducible refine (implCop 8 _).mono ?_)
          rintro e wa hp
          obtain ⟨rfl, hb⟩ := n_parts (show cop 8 = -1 by decide) hp
          have DA := Lib.hid (D9.out.trans (hb.mono D9.out.size))
          clear hp hb
          go_wp2_with fail
          go_ret
          exact ⟨rfl, BQ.out.trans (DA.out.mono BQ.out.size)⟩
    · by_cases hr2 : 0 ≤ n
      · have n2 : decide (n ≥ 0) = true := decide_eq_true (by omega)
        have n3 : decide (0 ≤ n) = true := decide_eq_true (by omega)
        have n4 : decide (n < 20) = false := decide_eq_false (by omega)
        clear hr hr2
        have c0 : ∀ q : Af w4, q.w.cell? ⟨b, 0, none⟩ = some (.int .i64 x) := fun q => (Af.cells X4.out q).cell 0
        have c1 : ∀ q : Af w4, q.w.cell? ⟨b, 1, none⟩ = some (.int .i64 y) := fun q => (Af.cells X4.out q).cell 1
        have c2 : ∀ q : Af w4, q.w.cell? ⟨b, 2, none⟩ = some (.int .i64 z) := fun q => (Af.cells X4.out q).cell 2
        have c3 : ∀ q : Af w4, q.w.cell? ⟨b, 3, none⟩ = some (.int .i64 u) := fun q => (Af.cells X4.out q).cell 3
        have k0 := Lib.hid (fun q => by have hh := implNw x y z u m q.w; rw [HG.out] at hh; exact hh : ∀ q : Af w4, Calls Tryd.prog 10 #[.agg #[.int .i64 x, .int .i64 y, .int .i64 z, .int .i64 u], .int .i64 m] q.w fun e w' => e = .returned (.int .i64 g) ∧ Below q.w.heap.size q.w w')
        have k1 := Lib.hid (fun q => by have hh := implWa x y z u 20 q.w; rw [HZ.out] at hh; exact hh : ∀ q : Af w4, Calls Tryd.prog 7 #[.agg #[.int .i64 x, .int .i64 y, .int .i64 z, .int .i64 u], .int .i64 20] q.w fun e w' => e = .returned (.int .i64 z) ∧ Below q.w.heap.size q.w w')
        have k2 := Lib.hid (fun q => by have hh := implWa x y z u 0 q.w; rw [HY.out] at hh; exact hh : ∀ q : Af w4, Calls Tryd.prog 7 #[.agg #[.int .i64 x, .int .i64 y, .int .i64 z, .int .i64 u], .int .i64 0] q.w fun e w' => e = .returned (.int .i64 y) ∧ Below q.w.heap.size q.w w')
        refine bx.region_after (by kernel_rfl) (by kernel_rfl) ?_
        repeat (go_big_quiet_step ((first
          | (go_at_call 10; with_reducible exact Af.call (k0.out _))
          | (go_at_call 7; with_reducible exact Af.call (k1.out _))
          | (go_at_call 7; with_reducible exact Af.call (k2.out _)))))
        refine wpQuiet_nil ?_
        intro _ hw'
        obtain ⟨nq, hw''⟩ := hw'
        subst hw''
        have BQ := Lib.hid (B4.out.trans (nq.below.mono B4.out.size))
        have TQ := Lib.hid (T4.out.below nq.below)
        obtain ⟨w5, hw5⟩ : ∃ w5, nq.w = w5 := ⟨_, rfl⟩
        rw [hw5] at BQ TQ
        rw [hw5]
        clear hw5 c0 c1 c2 c3 k0 k1 k2
        clear n2 n3 n4 h21 h22 HN
        clear d1 d2 d3 d4 hgm m0 m1 hy1 HG HZ HY HQ HV HM X4 T4 B4
        go_wp2_with fail
        go_loopw [6] (fun i wr => ∃ k : Nat, i = .int .i64 k ∧ k ≤ 3 ∧ Below w5.heap.size w5 wr) (fun i _ => 3 - (intOf i).toNat)
        case atStart => exact ⟨0, rfl, by omega, Below.refl _ _⟩
        case round =>
          obtain ⟨k, rfl, hk, hb⟩ := hrel
          have B6 := Lib.hid (BQ.out.trans (hb.mono BQ.out.size))
          have T6 := Lib.hid (TQ.out.below hb)
          have D6 := Lib.hid hb
          clear hb
          have hk4 : k = 0 ∨ k = 1 ∨ k = 2 ∨ k = 3 := by omega
          clear hk
          rcases hk4 with rfl | rfl | rfl | rfl
          · go_wp2_with fail
            (with_reducible refine (implPar 0 _ T6.out).mono ?_)
            rintro e w7 ⟨rfl, hb⟩
            have D7 := Lib.hid (D6.out.trans (hb.mono D6.out.size))
            have T7 := Lib.hid (T6.out.below hb)
            clear hb
            obtain ⟨b1, hb1⟩ : ∃ b1, b1 = w7.heap.size := ⟨_, rfl⟩
            obtain ⟨w8, hW⟩ : ∃ w8, w8 = w7.alloc (.cells #[.int .i64 7, .int .i64 15, .int .i64 1023, .int .i64 10] 25) := ⟨_, rfl⟩
            have D8 := Lib.hid (show Below w5.heap.size w5 w8 by rw [hW]; exact D7.out.alloc D7.out.size _)
            have X8 := Lib.hid (show Bx 25 w8 b1 #[.int .i64 7, .int .i64 15, .int .i64 1023, .int .i64 10] by rw [hW, hb1]; exact Bx.made _ _ _)
            have T8 := Lib.hid (show Tbl w8 by rw [hW]; exact T7.out.below (below_box _ _))
            rw [show pvs 0 = (7, 15, 1023, 10) by rfl]
            go_wp2_with fail
            rw [← hW, ← hb1]
            clear hW hb1 D7 T7
            (with_reducible refine (implPar 1 _ T8.out).mono ?_)
            rintro e w9 ⟨rfl, hb⟩
            have D9 := Lib.hid (D8.out.trans (hb.mono D8.out.size))
            have X9 := Lib.hid (X8.out.below hb)
            clear hb D8 X8 T8
            obtain ⟨b2, hb2⟩ : ∃ b2, b2 = w9.heap.size := ⟨_, rfl⟩
            obtain ⟨wa, hW⟩ : ∃ wa, wa = w9.alloc (.cells #[.int .i64 3, .int .i64 15, .int .i64 1023, .int .i64 10] 25) := ⟨_, rfl⟩
            have DA := Lib.hid (show Below w5.heap.size w5 wa by rw [hW]; exact D9.out.alloc D9.out.size _)
            have XA := Lib.hid (show Bx 25 wa b1 #[.int .i64 7, .int .i64 15, .int .i64 1023, .int .i64 10] by rw [hW]; exact X9.out.below (below_box _ _))
            have YA := Lib.hid (show Bx 25 wa b2 #[.int .i64 3, .int .i64 15, .int .i64 1023, .int .i64 10] by rw [hW, hb2]; exact Bx.made _ _ _)
            have c0 : wa.cell? ⟨b1, 0, none⟩ = some (.int .i64 7) := XA.out.cell 0
            have c1 : wa.cell? ⟨b1, 1, none⟩ = some (.int .i64 15) := XA.out.cell 1
            have c2 : wa.cell? ⟨b1, 2, none⟩ = some (.int .i64 1023) := XA.out.cell 2
            have c3 : wa.cell? ⟨b1, 3, none⟩ = some (.int .i64 10) := XA.out.cell 3
            rw [hW] at c0 c1 c2 c3
            rw [show pvs 1 = (3, 15, 1023, 10) by rfl]
            go_wp2_with fail
            rw [← hW, ← hb2]
            clear hW hb2 D9 X9 c0 c1 c2 c3
            (with_reducible refine (implVp 7 15 1023 10 _).mono ?_)
            rintro e wb hp
            obtain ⟨rfl, hb⟩ := b_parts (show vp 7 15 1023 10 = true by decide) hp
            have DB := Lib.hid (DA.out.trans (hb.mono DA.out.size))
            have XB := Lib.hid (XA.out.below hb)
            have YB := Lib.hid (YA.out.below hb)
            clear hp hb DA XA YA
            have c0 : wb.cell? ⟨b1, 0, none⟩ = some (.int .i64 7) := XB.out.cell 0
            have c1 : wb.cell? ⟨b1, 1, none⟩ = some (.int .i64 15) := XB.out.cell 1
            have c2 : wb.cell? ⟨b1, 2, none⟩ = some (.int .i64 1023) := XB.out.cell 2
            have c3 : wb.cell? ⟨b1, 3, none⟩ = some (.int .i64 10) := XB.out.cell 3
            have y0 : wb.cell? ⟨b2, 0, none⟩ = some (.int .i64 3) := YB.out.cell 0
            have y1 : wb.cell? ⟨b2, 1, none⟩ = some (.int .i64 15) := YB.out.cell 1
            have y2 : wb.cell? ⟨b2, 2, none⟩ = some (.int .i64 1023) := YB.out.cell 2
            have y3 : wb.cell? ⟨b2, 3, none⟩ = some (.int .i64 10) := YB.out.cell 3
            obtain ⟨s1, hs1⟩ : ∃ s1, cnm 0 = s1 := ⟨_, rfl⟩
            obtain ⟨s2, hs2⟩ : ∃ s2, cnm 1 = s2 := ⟨_, rfl⟩
            have hne : (s1.toList == s2.toList) = false := by rw [← hs1, ← hs2]; exact cnm_ne 0 (by omega)
            have H1 := Lib.hid hs1
            have H2 := Lib.hid hs2
            clear hs1 hs2
            go_wp2_with fail
            clear c0 c1 c2 c3 y0 y1 y2 y3
            (with_reducible refine (implCnm 0 _).mono ?_)
            rintro e wc hp
            obtain ⟨rfl, hb⟩ := t_parts H1.out hp
            have DC := Lib.hid (DB.out.trans (hb.mono DB.out.size))
            clear hp hb
            go_wp2_with fail
            (with_reducible refine (implCnm 1 _).mono ?_)
            rintro e wd hp
            obtain ⟨rfl, hb⟩ := t_parts H2.out hp
            have DD := Lib.hid (DC.out.trans (hb.mono DC.out.size))
            clear hp hb
            go_wp2_with fail
            go_roundw
            case rel => exact ⟨1, by go_num, by omega, DD.out⟩
            case measure => simp [intOf]
          · go_wp2_with fail
            (with_reducible refine (implPar 1 _ T6.out).mono ?_)
            rintro e w7 ⟨rfl, hb⟩
            have D7 := Lib.hid (D6.out.trans (hb.mono D6.out.size))
            have T7 := Lib.hid (T6.out.below hb)
            clear hb
            obtain ⟨b1, hb1⟩ : ∃ b1, b1 = w7.heap.size := ⟨_, rfl⟩
            obtain ⟨w8, hW⟩ : ∃ w8, w8 = w7.alloc (.cells #[.int .i64 3, .int .i64 15, .int .i64 1023, .int .i64 10] 25) := ⟨_, rfl⟩
            have D8 := Lib.hid (show Below w5.heap.size w5 w8 by rw [hW]; exact D7.out.alloc D7.out.size _)
            have X8 := Lib.hid (show Bx 25 w8 b1 #[.int .i64 3, .int .i64 15, .int .i64 1023, .int .i64 10] by rw [hW, hb1]; exact Bx.made _ _ _)
            have T8 := Lib.hid (show Tbl w8 by rw [hW]; exact T7.out.below (below_box _ _))
            rw [show pvs 1 = (3, 15, 1023, 10) by rfl]
            go_wp2_with fail
            rw [← hW, ← hb1]
            clear hW hb1 D7 T7
            (with_reducible refine (implPar 2 _ T8.out).mono ?_)
            rintro e w9 ⟨rfl, hb⟩
            have D9 := Lib.hid (D8.out.trans (hb.mono D8.out.size))
            have X9 := Lib.hid (X8.out.below hb)
            clear hb D8 X8 T8
            obtain ⟨b2, hb2⟩ : ∃ b2, b2 = w9.heap.size := ⟨_, rfl⟩
            obtain ⟨wa, hW⟩ : ∃ wa, wa = w9.alloc (.cells #[.int .i64 2, .int .i64 7, .int .i64 15, .int .i64 40] 25) := ⟨_, rfl⟩
            have DA := Lib.hid (show Below w5.heap.size w5 wa by rw [hW]; exact D9.out.alloc D9.out.size _)
            have XA := Lib.hid (show Bx 25 wa b1 #[.int .i64 3, .int .i64 15, .int .i64 1023, .int .i64 10] by rw [hW]; exact X9.out.below (below_box _ _))
            have YA := Lib.hid (show Bx 25 wa b2 #[.int .i64 2, .int .i64 7, .int .i64 15, .int .i64 40] by rw [hW, hb2]; exact Bx.made _ _ _)
            have c0 : wa.cell? ⟨b1, 0, none⟩ = some (.int .i64 3) := XA.out.cell 0
            have c1 : wa.cell? ⟨b1, 1, none⟩ = some (.int .i64 15) := XA.out.cell 1
            have c2 : wa.cell? ⟨b1, 2, none⟩ = some (.int .i64 1023) := XA.out.cell 2
            have c3 : wa.cell? ⟨b1, 3, none⟩ = some (.int .i64 10) := XA.out.cell 3
            rw [hW] at c0 c1 c2 c3
            rw [show pvs 2 = (2, 7, 15, 40) by rfl]
            go_wp2_with fail
            rw [← hW, ← hb2]
            clear hW hb2 D9 X9 c0 c1 c2 c3
            (with_reducible refine (implVp 3 15 1023 10 _).mono ?_)
            rintro e wb hp
            obtain ⟨rfl, hb⟩ := b_parts (show vp 3 15 1023 10 = true by decide) hp
            have DB := Lib.hid (DA.out.trans (hb.mono DA.out.size))
            have XB := Lib.hid (XA.out.below hb)
            have YB := Lib.hid (YA.out.below hb)
            clear hp hb DA XA YA
            have c0 : wb.cell? ⟨b1, 0, none⟩ = some (.int .i64 3) := XB.out.cell 0
            have c1 : wb.cell? ⟨b1, 1, none⟩ = some (.int .i64 15) := XB.out.cell 1
            have c2 : wb.cell? ⟨b1, 2, none⟩ = some (.int .i64 1023) := XB.out.cell 2
            have c3 : wb.cell? ⟨b1, 3, none⟩ = some (.int .i64 10) := XB.out.cell 3
            have y0 : wb.cell? ⟨b2, 0, none⟩ = some (.int .i64 2) := YB.out.cell 0
            have y1 : wb.cell? ⟨b2, 1, none⟩ = some (.int .i64 7) := YB.out.cell 1
            have y2 : wb.cell? ⟨b2, 2, none⟩ = some (.int .i64 15) := YB.out.cell 2
            have y3 : wb.cell? ⟨b2, 3, none⟩ = some (.int .i64 40) := YB.out.cell 3
            obtain ⟨s1, hs1⟩ : ∃ s1, cnm 1 = s1 := ⟨_, rfl⟩
            obtain ⟨s2, hs2⟩ : ∃ s2, cnm 2 = s2 := ⟨_, rfl⟩
            have hne : (s1.toList == s2.toList) = false := by rw [← hs1, ← hs2]; exact cnm_ne 1 (by omega)
            have H1 := Lib.hid hs1
            have H2 := Lib.hid hs2
            clear hs1 hs2
            go_wp2_with fail
            clear c0 c1 c2 c3 y0 y1 y2 y3
            (with_reducible refine (implCnm 1 _).mono ?_)
            rintro e wc hp
            obtain ⟨rfl, hb⟩ := t_parts H1.out hp
            have DC := Lib.hid (DB.out.trans (hb.mono DB.out.size))
            clear hp hb
            go_wp2_with fail
            (with_reducible refine (implCnm 2 _).mono ?_)
            rintro e wd hp
            obtain ⟨rfl, hb⟩ := t_parts H2.out hp
            have DD := Lib.hid (DC.out.trans (hb.mono DC.out.size))
            clear hp hb
            go_wp2_with fail
            go_roundw
            case rel => exact ⟨2, by go_num, by omega, DD.out⟩
            case measure => simp [intOf]
          · go_wp2_with fail
            (with_reducible refine (implPar 2 _ T6.out).mono ?_)
            rintro e w7 ⟨rfl, hb⟩
            have D7 := Lib.hid (D6.out.trans (hb.mono D6.out.size))
            have T7 := Lib.hid (T6.out.below hb)
            clear hb
            obtain ⟨b1, hb1⟩ : ∃ b1, b1 = w7.heap.size := ⟨_, rfl⟩
            obtain ⟨w8, hW⟩ : ∃ w8, w8 = w7.alloc (.cells #[.int .i64 2, .int .i64 7, .int .i64 15, .int .i64 40] 25) := ⟨_, rfl⟩
            have D8 := Lib.hid (show Below w5.heap.size w5 w8 by rw [hW]; exact D7.out.alloc D7.out.size _)
            have X8 := Lib.hid (show Bx 25 w8 b1 #[.int .i64 2, .int .i64 7, .int .i64 15, .int .i64 40] by rw [hW, hb1]; exact Bx.made _ _ _)
            have T8 := Lib.hid (show Tbl w8 by rw [hW]; exact T7.out.below (below_box _ _))
            rw [show pvs 2 = (2, 7, 15, 40) by rfl]
            go_wp2_with fail
            rw [← hW, ← hb1]
            clear hW hb1 D7 T7
            (with_reducible refine (implPar 3 _ T8.out).mono ?_)
            rintro e w9 ⟨rfl, hb⟩
            have D9 := Lib.hid (D8.out.trans (hb.mono D8.out.size))
            have X9 := Lib.hid (X8.out.below hb)
            clear hb D8 X8 T8
            obtain ⟨b2, hb2⟩ : ∃ b2, b2 = w9.heap.size := ⟨_, rfl⟩
            obtain ⟨wa, hW⟩ : ∃ wa, wa = w9.alloc (.cells #[.int .i64 2, .int .i64 3, .int .i64 7, .int .i64 20] 25) := ⟨_, rfl⟩
            have DA := Lib.hid (show Below w5.heap.size w5 wa by rw [hW]; exact D9.out.alloc D9.out.size _)
            have XA := Lib.hid (show Bx 25 wa b1 #[.int .i64 2, .int .i64 7, .int .i64 15, .int .i64 40] by rw [hW]; exact X9.out.below (below_box _ _))
            have YA := Lib.hid (show Bx 25 wa b2 #[.int .i64 2, .int .i64 3, .int .i64 7, .int .i64 20] by rw [hW, hb2]; exact Bx.made _ _ _)
            have c0 : wa.cell? ⟨b1, 0, none⟩ = some (.int .i64 2) := XA.out.cell 0
            have c1 : wa.cell? ⟨b1, 1, none⟩ = some (.int .i64 7) := XA.out.cell 1
            have c2 : wa.cell? ⟨b1, 2, none⟩ = some (.int .i64 15) := XA.out.cell 2
            have c3 : wa.cell? ⟨b1, 3, none⟩ = some (.int .i64 40) := XA.out.cell 3
            rw [hW] at c0 c1 c2 c3
            rw [show pvs 3 = (2, 3, 7, 20) by rfl]
            go_wp2_with fail
            rw [← hW, ← hb2]
            clear hW hb2 D9 X9 c0 c1 c2 c3
            (with_reducible refine (implVp 2 7 15 40 _).mono ?_)
            rintro e wb hp
            obtain ⟨rfl, hb⟩ := b_parts (show vp 2 7 15 40 = true by decide) hp
            have DB := Lib.hid (DA.out.trans (hb.mono DA.out.size))
            have XB := Lib.hid (XA.out.below hb)
            have YB := Lib.hid (YA.out.below hb)
            clear hp hb DA XA YA
            have c0 : wb.cell? ⟨b1, 0, none⟩ = some (.int .i64 2) := XB.out.cell 0
            have c1 : wb.cell? ⟨b1, 1, none⟩ = some (.int .i64 7) := XB.out.cell 1
            have c2 : wb.cell? ⟨b1, 2, none⟩ = some (.int .i64 15) := XB.out.cell 2
            have c3 : wb.cell? ⟨b1, 3, none⟩ = some (.int .i64 40) := XB.out.cell 3
            have y0 : wb.cell? ⟨b2, 0, none⟩ = some (.int .i64 2) := YB.out.cell 0
            have y1 : wb.cell? ⟨b2, 1, none⟩ = some (.int .i64 3) := YB.out.cell 1
            have y2 : wb.cell? ⟨b2, 2, none⟩ = some (.int .i64 7) := YB.out.cell 2
            have y3 : wb.cell? ⟨b2, 3, none⟩ = some (.int .i64 20) := YB.out.cell 3
            obtain ⟨s1, hs1⟩ : ∃ s1, cnm 2 = s1 := ⟨_, rfl⟩
            obtain ⟨s2, hs2⟩ : ∃ s2, cnm 3 = s2 := ⟨_, rfl⟩
            have hne : (s1.toList == s2.toList) = false := by rw [← hs1, ← hs2]; exact cnm_ne 2 (by omega)
            have H1 := Lib.hid hs1
            have H2 := Lib.hid hs2
            clear hs1 hs2
            go_wp2_with fail
            clear c0 c1 c2 c3 y0 y1 y2 y3
            (with_reducible refine (implCnm 2 _).mono ?_)
            rintro e wc hp
            obtain ⟨rfl, hb⟩ := t_parts H1.out hp
            have DC := Lib.hid (DB.out.trans (hb.mono DB.out.size))
            clear hp hb
            go_wp2_with fail
            (with_reducible refine (implCnm 3 _).mono ?_)
            rintro e wd hp
            obtain ⟨rfl, hb⟩ := t_parts H2.out hp
            have DD := Lib.hid (DC.out.trans (hb.mono DC.out.size))
            clear hp hb
            go_wp2_with fail
            go_roundw
            case rel => exact ⟨3, by go_num, by omega, DD.out⟩
            case measure => simp [intOf]
          · go_wp2_with fail
            (with_reducible refine (implIw [0, 2, 9, 1] _ _ _ 4 4 _ (four_made _ wr 0 2 9 1 rfl rfl rfl rfl)).mono ?_)
            rintro e w7 hp
            obtain ⟨rfl, hb⟩ := n_parts (show best [0, 2, 9, 1] [0, 2, 9, 1].length = 2 by decide) hp
            have D7 := Lib.hid ((D6.out.alloc D6.out.size _).trans (hb.mono (D6.out.alloc D6.out.size _).size))
            clear hp hb
            go_wp2_with fail
            (with_reducible refine (implIw [7] _ _ _ 1 1 _ (Rd.one .i64 _ w7 7 rfl)).mono ?_)
            rintro e w8 hp
            obtain ⟨rfl, hb⟩ := n_parts (show best [7] [7].length = -1 by decide) hp
            have D8 := Lib.hid ((D7.out.alloc D7.out.size _).trans (hb.mono (D7.out.alloc D7.out.size _).size))
            clear hp hb
            go_wp2_with fail
            (with_reducible refine (implCop 7 _).mono ?_)
            rintro e w9 hp
            obtain ⟨rfl, hb⟩ := n_parts (show cop 7 = 3 by decide) hp
            have D9 := Lib.hid (D8.out.trans (hb.mono D8.out.size))
            clear hp hb
            go_wp2_with fail
            (with_reducible refine (implCop 8 _).mono ?_)
            rintro e wa hp
            obtain ⟨rfl, hb⟩ := n_parts (show cop 8 = -1 by decide) hp
            have DA := Lib.hid (D9.out.trans (hb.mono D9.out.size))
            clear hp hb
            go_wp2_with fail
            go_ret
            exact ⟨rfl, BQ.out.trans (DA.out.mono BQ.out.size)⟩
      · have n2 : decide (n ≥ 0) = false := decide_eq_false (by omega)
        have n3 : decide (0 ≤ n) = false := decide_eq_false (by omega)
        clear hr hr2
        have c0 : ∀ q : Af w4, q.w.cell? ⟨b, 0, none⟩ = some (.int .i64 x) := fun q => (Af.cells X4.out q).cell 0
        have c1 : ∀ q : Af w4, q.w.cell? ⟨b, 1, none⟩ = some (.int .i64 y) := fun q => (Af.cells X4.out q).cell 1
        have c2 : ∀ q : Af w4, q.w.cell? ⟨b, 2, none⟩ = some (.int .i64 z) := fun q => (Af.cells X4.out q).cell 2
        have c3 : ∀ q : Af w4, q.w.cell? ⟨b, 3, none⟩ = some (.int .i64 u) := fun q => (Af.cells X4.out q).cell 3
        have k0 := Lib.hid (fun q => by have hh := implNw x y z u m q.w; rw [HG.out] at hh; exact hh : ∀ q : Af w4, Calls Tryd.prog 10 #[.agg #[.int .i64 x, .int .i64 y, .int .i64 z, .int .i64 u], .int .i64 m] q.w fun e w' => e = .returned (.int .i64 g) ∧ Below q.w.heap.size q.w w')
        have k1 := Lib.hid (fun q => by have hh := implWa x y z u 20 q.w; rw [HZ.out] at hh; exact hh : ∀ q : Af w4, Calls Tryd.prog 7 #[.agg #[.int .i64 x, .int .i64 y, .int .i64 z, .int .i64 u], .int .i64 20] q.w fun e w' => e = .returned (.int .i64 z) ∧ Below q.w.heap.size q.w w')
        have k2 := Lib.hid (fun q => by have hh := implWa x y z u 0 q.w; rw [HY.out] at hh; exact hh : ∀ q : Af w4, Calls Tryd.prog 7 #[.agg #[.int .i64 x, .int .i64 y, .int .i64 z, .int .i64 u], .int .i64 0] q.w fun e w' => e = .returned (.int .i64 y) ∧ Below q.w.heap.size q.w w')
        refine bx.region_after (by kernel_rfl) (by kernel_rfl) ?_
        repeat (go_big_quiet_step ((first
          | (go_at_call 10; with_reducible exact Af.call (k0.out _))
          | (go_at_call 7; with_reducible exact Af.call (k1.out _))
          | (go_at_call 7; with_reducible exact Af.call (k2.out _)))))
        refine wpQuiet_nil ?_
        intro _ hw'
        obtain ⟨nq, hw''⟩ := hw'
        subst hw''
        have BQ := Lib.hid (B4.out.trans (nq.below.mono B4.out.size))
        have TQ := Lib.hid (T4.out.below nq.below)
        obtain ⟨w5, hw5⟩ : ∃ w5, nq.w = w5 := ⟨_, rfl⟩
        rw [hw5] at BQ TQ
        rw [hw5]
        clear hw5 c0 c1 c2 c3 k0 k1 k2
        clear n2 n3 h21 h22 HN
        clear d1 d2 d3 d4 hgm m0 m1 hy1 HG HZ HY HQ HV HM X4 T4 B4
        go_wp2_with fail
        go_loopw [6] (fun i wr => ∃ k : Nat, i = .int .i64 k ∧ k ≤ 3 ∧ Below w5.heap.size w5 wr) (fun i _ => 3 - (intOf i).toNat)
        case atStart => exact ⟨0, rfl, by omega, Below.refl _ _⟩
        case round =>
          obtain ⟨k, rfl, hk, hb⟩ := hrel
          have B6 := Lib.hid (BQ.out.trans (hb.mono BQ.out.size))
          have T6 := Lib.hid (TQ.out.below hb)
          have D6 := Lib.hid hb
          clear hb
          have hk4 : k = 0 ∨ k = 1 ∨ k = 2 ∨ k = 3 := by omega
          clear hk
          rcases hk4 with rfl | rfl | rfl | rfl
          · go_wp2_with fail
            (with_reducible refine (implPar 0 _ T6.out).mono ?_)
            rintro e w7 ⟨rfl, hb⟩
            have D7 := Lib.hid (D6.out.trans (hb.mono D6.out.size))
            have T7 := Lib.hid (T6.out.below hb)
            clear hb
            obtain ⟨b1, hb1⟩ : ∃ b1, b1 = w7.heap.size := ⟨_, rfl⟩
            obtain ⟨w8, hW⟩ : ∃ w8, w8 = w7.alloc (.cells #[.int .i64 7, .int .i64 15, .int .i64 1023, .int .i64 10] 25) := ⟨_, rfl⟩
            have D8 := Lib.hid (show Below w5.heap.size w5 w8 by rw [hW]; exact D7.out.alloc D7.out.size _)
            have X8 := Lib.hid (show Bx 25 w8 b1 #[.int .i64 7, .int .i64 15, .int .i64 1023, .int .i64 10] by rw [hW, hb1]; exact Bx.made _ _ _)
            have T8 := Lib.hid (show Tbl w8 by rw [hW]; exact T7.out.below (below_box _ _))
            rw [show pvs 0 = (7, 15, 1023, 10) by rfl]
            go_wp2_with fail
            rw [← hW, ← hb1]
            clear hW hb1 D7 T7
            (with_reducible refine (implPar 1 _ T8.out).mono ?_)
            rintro e w9 ⟨rfl, hb⟩
            have D9 := Lib.hid (D8.out.trans (hb.mono D8.out.size))
            have X9 := Lib.hid (X8.out.below hb)
            clear hb D8 X8 T8
            obtain ⟨b2, hb2⟩ : ∃ b2, b2 = w9.heap.size := ⟨_, rfl⟩
            obtain ⟨wa, hW⟩ : ∃ wa, wa = w9.alloc (.cells #[.int .i64 3, .int .i64 15, .int .i64 1023, .int .i64 10] 25) := ⟨_, rfl⟩
            have DA := Lib.hid (show Below w5.heap.size w5 wa by rw [hW]; exact D9.out.alloc D9.out.size _)
            have XA := Lib.hid (show Bx 25 wa b1 #[.int .i64 7, .int .i64 15, .int .i64 1023, .int .i64 10] by rw [hW]; exact X9.out.below (below_box _ _))
            have YA := Lib.hid (show Bx 25 wa b2 #[.int .i64 3, .int .i64 15, .int .i64 1023, .int .i64 10] by rw [hW, hb2]; exact Bx.made _ _ _)
            have c0 : wa.cell? ⟨b1, 0, none⟩ = some (.int .i64 7) := XA.out.cell 0
            have c1 : wa.cell? ⟨b1, 1, none⟩ = some (.int .i64 15) := XA.out.cell 1
            have c2 : wa.cell? ⟨b1, 2, none⟩ = some (.int .i64 1023) := XA.out.cell 2
            have c3 : wa.cell? ⟨b1, 3, none⟩ = some (.int .i64 10) := XA.out.cell 3
            rw [hW] at c0 c1 c2 c3
            rw [show pvs 1 = (3, 15, 1023, 10) by rfl]
            go_wp2_with fail
            rw [← hW, ← hb2]
            clear hW hb2 D9 X9 c0 c1 c2 c3
            (with_reducible refine (implVp 7 15 1023 10 _).mono ?_)
            rintro e wb hp
            obtain ⟨rfl, hb⟩ := b_parts (show vp 7 15 1023 10 = true by decide) hp
            have DB := Lib.hid (DA.out.trans (hb.mono DA.out.size))
            have XB := Lib.hid (XA.out.below hb)
            have YB := Lib.hid (YA.out.below hb)
            clear hp hb DA XA YA
            have c0 : wb.cell? ⟨b1, 0, none⟩ = some (.int .i64 7) := XB.out.cell 0
            have c1 : wb.cell? ⟨b1, 1, none⟩ = some (.int .i64 15) := XB.out.cell 1
            have c2 : wb.cell? ⟨b1, 2, none⟩ = some (.int .i64 1023) := XB.out.cell 2
            have c3 : wb.cell? ⟨b1, 3, none⟩ = some (.int .i64 10) := XB.out.cell 3
            have y0 : wb.cell? ⟨b2, 0, none⟩ = some (.int .i64 3) := YB.out.cell 0
            have y1 : wb.cell? ⟨b2, 1, none⟩ = some (.int .i64 15) := YB.out.cell 1
            have y2 : wb.cell? ⟨b2, 2, none⟩ = some (.int .i64 1023) := YB.out.cell 2
            have y3 : wb.cell? ⟨b2, 3, none⟩ = some (.int .i64 10) := YB.out.cell 3
            obtain ⟨s1, hs1⟩ : ∃ s1, cnm 0 = s1 := ⟨_, rfl⟩
            obtain ⟨s2, hs2⟩ : ∃ s2, cnm 1 = s2 := ⟨_, rfl⟩
            have hne : (s1.toList == s2.toList) = false := by rw [← hs1, ← hs2]; exact cnm_ne 0 (by omega)
            have H1 := Lib.hid hs1
            have H2 := Lib.hid hs2
            clear hs1 hs2
            go_wp2_with fail
            clear c0 c1 c2 c3 y0 y1 y2 y3
            (with_reducible refine (implCnm 0 _).mono ?_)
            rintro e wc hp
            obtain ⟨rfl, hb⟩ := t_parts H1.out hp
            have DC := Lib.hid (DB.out.trans (hb.mono DB.out.size))
            clear hp hb
            go_wp2_with fail
            (with_reducible refine (implCnm 1 _).mono ?_)
            rintro e wd hp
            obtain ⟨rfl, hb⟩ := t_parts H2.out hp
            have DD := Lib.hid (DC.out.trans (hb.mono DC.out.size))
            clear hp hb
            go_wp2_with fail
            go_roundw
            case rel => exact ⟨1, by go_num, by omega, DD.out⟩
            case measure => simp [intOf]
          · go_wp2_with fail
            (with_reducible refine (implPar 1 _ T6.out).mono ?_)
            rintro e w7 ⟨rfl, hb⟩
            have D7 := Lib.hid (D6.out.trans (hb.mono D6.out.size))
            have T7 := Lib.hid (T6.out.below hb)
            clear hb
            obtain ⟨b1, hb1⟩ : ∃ b1, b1 = w7.heap.size := ⟨_, rfl⟩
            obtain ⟨w8, hW⟩ : ∃ w8, w8 = w7.alloc (.cells #[.int .i64 3, .int .i64 15, .int .i64 1023, .int .i64 10] 25) := ⟨_, rfl⟩
            have D8 := Lib.hid (show Below w5.heap.size w5 w8 by rw [hW]; exact D7.out.alloc D7.out.size _)
            have X8 := Lib.hid (show Bx 25 w8 b1 #[.int .i64 3, .int .i64 15, .int .i64 1023, .int .i64 10] by rw [hW, hb1]; exact Bx.made _ _ _)
            have T8 := Lib.hid (show Tbl w8 by rw [hW]; exact T7.out.below (below_box _ _))
            rw [show pvs 1 = (3, 15, 1023, 10) by rfl]
            go_wp2_with fail
            rw [← hW, ← hb1]
            clear hW hb1 D7 T7
            (with_reducible refine (implPar 2 _ T8.out).mono ?_)
            rintro e w9 ⟨rfl, hb⟩
            have D9 := Lib.hid (D8.out.trans (hb.mono D8.out.size))
            have X9 := Lib.hid (X8.out.below hb)
            clear hb D8 X8 T8
            obtain ⟨b2, hb2⟩ : ∃ b2, b2 = w9.heap.size := ⟨_, rfl⟩
            obtain ⟨wa, hW⟩ : ∃ wa, wa = w9.alloc (.cells #[.int .i64 2, .int .i64 7, .int .i64 15, .int .i64 40] 25) := ⟨_, rfl⟩
            have DA := Lib.hid (show Below w5.heap.size w5 wa by rw [hW]; exact D9.out.alloc D9.out.size _)
            have XA := Lib.hid (show Bx 25 wa b1 #[.int .i64 3, .int .i64 15, .int .i64 1023, .int .i64 10] by rw [hW]; exact X9.out.below (below_box _ _))
            have YA := Lib.hid (show Bx 25 wa b2 #[.int .i64 2, .int .i64 7, .int .i64 15, .int .i64 40] by rw [hW, hb2]; exact Bx.made _ _ _)
            have c0 : wa.cell? ⟨b1, 0, none⟩ = some (.int .i64 3) := XA.out.cell 0
            have c1 : wa.cell? ⟨b1, 1, none⟩ = some (.int .i64 15) := XA.out.cell 1
            have c2 : wa.cell? ⟨b1, 2, none⟩ = some (.int .i64 1023) := XA.out.cell 2
            have c3 : wa.cell? ⟨b1, 3, none⟩ = some (.int .i64 10) := XA.out.cell 3
            rw [hW] at c0 c1 c2 c3
            rw [show pvs 2 = (2, 7, 15, 40) by rfl]
            go_wp2_with fail
            rw [← hW, ← hb2]
            clear hW hb2 D9 X9 c0 c1 c2 c3
            (with_reducible refine (implVp 3 15 1023 10 _).mono ?_)
            rintro e wb hp
            obtain ⟨rfl, hb⟩ := b_parts (show vp 3 15 1023 10 = true by decide) hp
            have DB := Lib.hid (DA.out.trans (hb.mono DA.out.size))
            have XB := Lib.hid (XA.out.below hb)
            have YB := Lib.hid (YA.out.below hb)
            clear hp hb DA XA YA
            have c0 : wb.cell? ⟨b1, 0, none⟩ = some (.int .i64 3) := XB.out.cell 0
            have c1 : wb.cell? ⟨b1, 1, none⟩ = some (.int .i64 15) := XB.out.cell 1
            have c2 : wb.cell? ⟨b1, 2, none⟩ = some (.int .i64 1023) := XB.out.cell 2
            have c3 : wb.cell? ⟨b1, 3, none⟩ = some (.int .i64 10) := XB.out.cell 3
            have y0 : wb.cell? ⟨b2, 0, none⟩ = some (.int .i64 2) := YB.out.cell 0
            have y1 : wb.cell? ⟨b2, 1, none⟩ = some (.int .i64 7) := YB.out.cell 1
            have y2 : wb.cell? ⟨b2, 2, none⟩ = some (.int .i64 15) := YB.out.cell 2
            have y3 : wb.cell? ⟨b2, 3, none⟩ = some (.int .i64 40) := YB.out.cell 3
            obtain ⟨s1, hs1⟩ : ∃ s1, cnm 1 = s1 := ⟨_, rfl⟩
            obtain ⟨s2, hs2⟩ : ∃ s2, cnm 2 = s2 := ⟨_, rfl⟩
            have hne : (s1.toList == s2.toList) = false := by rw [← hs1, ← hs2]; exact cnm_ne 1 (by omega)
            have H1 := Lib.hid hs1
            have H2 := Lib.hid hs2
            clear hs1 hs2
            go_wp2_with fail
            clear c0 c1 c2 c3 y0 y1 y2 y3
            (with_reducible refine (implCnm 1 _).mono ?_)
            rintro e wc hp
            obtain ⟨rfl, hb⟩ := t_parts H1.out hp
            have DC := Lib.hid (DB.out.trans (hb.mono DB.out.size))
            clear hp hb
            go_wp2_with fail
            (with_reducible refine (implCnm 2 _).mono ?_)
            rintro e wd hp
            obtain ⟨rfl, hb⟩ := t_parts H2.out hp
            have DD := Lib.hid (DC.out.trans (hb.mono DC.out.size))
            clear hp hb
            go_wp2_with fail
            go_roundw
            case rel => exact ⟨2, by go_num, by omega, DD.out⟩
            case measure => simp [intOf]
          · go_wp2_with fail
            (with_reducible refine (implPar 2 _ T6.out).mono ?_)
            rintro e w7 ⟨rfl, hb⟩
            have D7 := Lib.hid (D6.out.trans (hb.mono D6.out.size))
            have T7 := Lib.hid (T6.out.below hb)
            clear hb
            obtain ⟨b1, hb1⟩ : ∃ b1, b1 = w7.heap.size := ⟨_, rfl⟩
            obtain ⟨w8, hW⟩ : ∃ w8, w8 = w7.alloc (.cells #[.int .i64 2, .int .i64 7, .int .i64 15, .int .i64 40] 25) := ⟨_, rfl⟩
            have D8 := Lib.hid (show Below w5.heap.size w5 w8 by rw [hW]; exact D7.out.alloc D7.out.size _)
            have X8 := Lib.hid (show Bx 25 w8 b1 #[.int .i64 2, .int .i64 7, .int .i64 15, .int .i64 40] by rw [hW, hb1]; exact Bx.made _ _ _)
            have T8 := Lib.hid (show Tbl w8 by rw [hW]; exact T7.out.below (below_box _ _))
            rw [show pvs 2 = (2, 7, 15, 40) by rfl]
            go_wp2_with fail
            rw [← hW, ← hb1]
            clear hW hb1 D7 T7
            (with_reducible refine (implPar 3 _ T8.out).mono ?_)
            rintro e w9 ⟨rfl, hb⟩
            have D9 := Lib.hid (D8.out.trans (hb.mono D8.out.size))
            have X9 := Lib.hid (X8.out.below hb)
            clear hb D8 X8 T8
            obtain ⟨b2, hb2⟩ : ∃ b2, b2 = w9.heap.size := ⟨_, rfl⟩
            obtain ⟨wa, hW⟩ : ∃ wa, wa = w9.alloc (.cells #[.int .i64 2, .int .i64 3, .int .i64 7, .int .i64 20] 25) := ⟨_, rfl⟩
            have DA := Lib.hid (show Below w5.heap.size w5 wa by rw [hW]; exact D9.out.alloc D9.out.size _)
            have XA := Lib.hid (show Bx 25 wa b1 #[.int .i64 2, .int .i64 7, .int .i64 15, .int .i64 40] by rw [hW]; exact X9.out.below (below_box _ _))
            have YA := Lib.hid (show Bx 25 wa b2 #[.int .i64 2, .int .i64 3, .int .i64 7, .int .i64 20] by rw [hW, hb2]; exact Bx.made _ _ _)
            have c0 : wa.cell? ⟨b1, 0, none⟩ = some (.int .i64 2) := XA.out.cell 0
            have c1 : wa.cell? ⟨b1, 1, none⟩ = some (.int .i64 7) := XA.out.cell 1
            have c2 : wa.cell? ⟨b1, 2, none⟩ = some (.int .i64 15) := XA.out.cell 2
            have c3 : wa.cell? ⟨b1, 3, none⟩ = some (.int .i64 40) := XA.out.cell 3
            rw [hW] at c0 c1 c2 c3
            rw [show pvs 3 = (2, 3, 7, 20) by rfl]
            go_wp2_with fail
            rw [← hW, ← hb2]
            clear hW hb2 D9 X9 c0 c1 c2 c3
            (with_reducible refine (implVp 2 7 15 40 _).mono ?_)
            rintro e wb hp
            obtain ⟨rfl, hb⟩ := b_parts (show vp 2 7 15 40 = true by decide) hp
            have DB := Lib.hid (DA.out.trans (hb.mono DA.out.size))
            have XB := Lib.hid (XA.out.below hb)
            have YB := Lib.hid (YA.out.below hb)
            clear hp hb DA XA YA
            have c0 : wb.cell? ⟨b1, 0, none⟩ = some (.int .i64 2) := XB.out.cell 0
            have c1 : wb.cell? ⟨b1, 1, none⟩ = some (.int .i64 7) := XB.out.cell 1
            have c2 : wb.cell? ⟨b1, 2, none⟩ = some (.int .i64 15) := XB.out.cell 2
            have c3 : wb.cell? ⟨b1, 3, none⟩ = some (.int .i64 40) := XB.out.cell 3
            have y0 : wb.cell? ⟨b2, 0, none⟩ = some (.int .i64 2) := YB.out.cell 0
            have y1 : wb.cell? ⟨b2, 1, none⟩ = some (.int .i64 3) := YB.out.cell 1
            have y2 : wb.cell? ⟨b2, 2, none⟩ = some (.int .i64 7) := YB.out.cell 2
            have y3 : wb.cell? ⟨b2, 3, none⟩ = some (.int .i64 20) := YB.out.cell 3
            obtain ⟨s1, hs1⟩ : ∃ s1, cnm 2 = s1 := ⟨_, rfl⟩
            obtain ⟨s2, hs2⟩ : ∃ s2, cnm 3 = s2 := ⟨_, rfl⟩
            have hne : (s1.toList == s2.toList) = false := by rw [← hs1, ← hs2]; exact cnm_ne 2 (by omega)
            have H1 := Lib.hid hs1
            have H2 := Lib.hid hs2
            clear hs1 hs2
            go_wp2_with fail
            clear c0 c1 c2 c3 y0 y1 y2 y3
            (with_reducible refine (implCnm 2 _).mono ?_)
            rintro e wc hp
            obtain ⟨rfl, hb⟩ := t_parts H1.out hp
            have DC := Lib.hid (DB.out.trans (hb.mono DB.out.size))
            clear hp hb
            go_wp2_with fail
            (with_reducible refine (implCnm 3 _).mono ?_)
            rintro e wd hp
            obtain ⟨rfl, hb⟩ := t_parts H2.out hp
            have DD := Lib.hid (DC.out.trans (hb.mono DC.out.size))
            clear hp hb
            go_wp2_with fail
            go_roundw
            case rel => exact ⟨3, by go_num, by omega, DD.out⟩
            case measure => simp [intOf]
          · go_wp2_with fail
            (with_reducible refine (implIw [0, 2, 9, 1] _ _ _ 4 4 _ (four_made _ wr 0 2 9 1 rfl rfl rfl rfl)).mono ?_)
            rintro e w7 hp
            obtain ⟨rfl, hb⟩ := n_parts (show best [0, 2, 9, 1] [0, 2, 9, 1].length = 2 by decide) hp
            have D7 := Lib.hid ((D6.out.alloc D6.out.size _).trans (hb.mono (D6.out.alloc D6.out.size _).size))
            clear hp hb
            go_wp2_with fail
            (with_reducible refine (implIw [7] _ _ _ 1 1 _ (Rd.one .i64 _ w7 7 rfl)).mono ?_)
            rintro e w8 hp
            obtain ⟨rfl, hb⟩ := n_parts (show best [7] [7].length = -1 by decide) hp
            have D8 := Lib.hid ((D7.out.alloc D7.out.size _).trans (hb.mono (D7.out.alloc D7.out.size _).size))
            clear hp hb
            go_wp2_with fail
            (with_reducible refine (implCop 7 _).mono ?_)
            rintro e w9 hp
            obtain ⟨rfl, hb⟩ := n_parts (show cop 7 = 3 by decide) hp
            have D9 := Lib.hid (D8.out.trans (hb.mono D8.out.size))
            clear hp hb
            go_wp2_with fail
            (with_reducible refine (implCop 8 _).mono ?_)
            rintro e wa hp
            obtain ⟨rfl, hb⟩ := n_parts (show cop 8 = -1 by decide) hp
            have DA := Lib.hid (D9.out.trans (hb.mono D9.out.size))
            clear hp hb
            go_wp2_with fail
            go_ret
            exact ⟨rfl, BQ.out.trans (DA.out.mono BQ.out.size)⟩
end Go.Proofs.YthgobaohlcninaaDoor.accLaw
