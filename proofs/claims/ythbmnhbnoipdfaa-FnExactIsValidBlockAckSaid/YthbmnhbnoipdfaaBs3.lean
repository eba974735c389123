/- The outstanding frames; whether all is done; the next frame; program and specification. Condition: none. -/
import Derived.Test.YthbmnhbnoipdfaaBs2
import Derived.Test.YthbmnhbnoipdfaaApp
namespace Go.Proofs.Ythbmnhbnoipdfaa.bs
open Go.RowKit sl harn rng bx stw
set_option linter.unusedVariables false
set_option linter.unusedSimpArgs false

theorem ow_bx {E : TypeId} {k : IntKind} {w : World} {b : Nat} (h : Bx E w b #[]) : Ow E k w b w.heap.size (some ⟨b, 0, none⟩) 0 0 [] :=
  ⟨⟨rfl, .inr ⟨b, 0, #[], rfl, Nat.le_refl _, h, Nat.le_refl _, by unfold maxLen; omega, rfl, rfl⟩⟩, Wf.nil k, Nat.le_refl _, fun g o e => by injection e with e; injection e with e _; subst e; exact h.lt⟩
set_option maxRecDepth 100000 in
set_option maxHeartbeats 4000000 in
theorem implOs (s n a : Int) (w : World) :
    Calls Try.prog 18 #[.agg #[.int .i64 s, .int .i64 n, .int .i64 a]] w (SlPost 3 .i64 w (outs ⟨s, n, a⟩)) := by
  obtain ⟨i0, hi0, hz0, hz1, hz2⟩ := info_parts intInfo
  have HZ := Lib.hid (And.intro hi0 (And.intro hz0 (And.intro hz1 hz2)))
  clear hi0 hz0 hz1 hz2
  obtain ⟨v, hv⟩ : ∃ v, vs ⟨s, n, a⟩ = v := ⟨_, rfl⟩
  have HV := Lib.hid hv
  go_enter Try.func18, Try.ntmps18
  go_upto_region 1 with fail
  obtain ⟨w0, hW⟩ : ∃ w0, w.alloc (.cells #[.int .i64 s, .int .i64 n, .int .i64 a] 25) = w0 := ⟨_, rfl⟩
  rw [hW]
  have B0 := Lib.hid (show Below w.heap.size w w0 by rw [← hW]; exact (Below.refl _ _).alloc (by simp <;> omega) _)
  have X0 := Lib.hid (show Bx 25 w0 (w.heap.size) #[.int .i64 s, .int .i64 n, .int .i64 a] by
      rw [← hW]
      have hh := Bx.made 25 w #[.int .i64 s, .int .i64 n, .int .i64 a]
      exact hh)
  clear hW
  have LTX := Lib.hid X0.out.lt
  obtain ⟨be, hbb⟩ : ∃ b, w0.heap.size = b := ⟨_, rfl⟩
  go_upto_region 2 with fail
  generalize hW : w0.alloc (.cells #[] 3) = w1
  have LE := Lib.hid (show w.heap.size ≤ be ∧ w.heap.size < be by have h1 := B0.out.size; have h2X := X0.out.lt; have h3 := hbb; omega)
  have E1 := Lib.hid (show Bx 3 w1 be #[] by rw [← hW, ← hbb]; exact Bx.made _ _ _)
  have hb : Below w0.heap.size w0 w1 := by rw [← hW]; exact below_box _ _
  (try rw [hbb])
  clear hW hbb
  have SS1 := Lib.hid hb.size
  have B1 := Lib.hid (B0.out.trans (hb.mono B0.out.size))
  have X1 := Lib.hid (X0.out.below hb)
  clear hb B0 X0
  have LWE := Lib.hid E1.out.lt
  have O1 := Lib.hid (ow_bx (k := .i64) E1.out)
  clear E1
  go_wp2_with (refine stw.list_load rfl 25 _ rfl (w.heap.size) rfl 25 _ X1.out Try.underlying25 rfl szS ?_)
  (with_reducible refine (implVs s n a _).mono ?_)
  rintro e w2 hp
  obtain ⟨rfl, hb⟩ := b_parts HV.out hp
  clear hp
  have SS2 := Lib.hid hb.size
  have B2 := Lib.hid (B1.out.trans (hb.mono B1.out.size))
  have X2 := Lib.hid (X1.out.below hb)
  have O2 := Lib.hid (O1.out.below hb)
  clear hb  B1 X1 O1
  cases v with
  | true =>
    have hv := HV.out
    obtain ⟨W, m, hV⟩ := vs_of hv
    obtain rfl : a = (m : Int) := hV.ha
    have HVV := Lib.hid hV
    have HSQ := Lib.hid (show sqd s n = (W : Int) from hV.sq)
    have HS := Lib.hid (show 0 ≤ s ∧ s ≤ 4095 from hV.hs)
    have HW := Lib.hid (show W ≤ 16 ∧ m < 65536 by have h1 := hV.hw; have h2 := hV.hb; have h3 : 2 ^ W ≤ 2 ^ 16 := Nat.pow_le_pow_right (by omega) h1; omega)
    have HOU := Lib.hid (show outs ⟨s, n, (m : Int)⟩ = (ou m W).map (fr s) from hV.outs)
    clear hV
    have cX0 : w2.cell? ⟨w.heap.size, 0, none⟩ = some (.int .i64 s) := X2.out.cell 0
    have cX1 : w2.cell? ⟨w.heap.size, 1, none⟩ = some (.int .i64 n) := X2.out.cell 1
    go_wp2_with fail
    (with_reducible refine (implSd s n _).mono ?_)
    rw [HSQ.out]
    rintro e wq ⟨rfl, rfl⟩
    have HO9 := Lib.hid O2.out.up
    go_wp2_with fail
    clear cX0 cX1
    go_loopw [3, 15] (fun v0 v1 wr => ∃ (k : Nat) (A1 : Option Addr) (n1 : Nat) (c1 : Nat), v0 = .slice A1 n1 c1 ∧ v1 = .int .i64 (k : Int) ∧ (k ≤ W) ∧ (be < wr.heap.size) ∧ Below w.heap.size w wr ∧ Bx 25 wr w.heap.size #[.int .i64 s, .int .i64 n, .int .i64 (m : Int)] ∧ Ow 3 .i64 wr (be) (wr.heap.size) A1 n1 c1 ((ou m k).map (fr s))) ((fun _ i _ => W - (intOf i).toNat))
    case atStart => exact ⟨0, _, _, _, rfl, rfl, by omega, by have hlE := LE.out; have hs0 := LTX.out; have hs1 := SS1.out; have hs2 := LWE.out; have hs3 := SS2.out; omega, B2.out, X2.out, (by simpa [ou] using HO9.out)⟩
    case round =>
      obtain ⟨k, A1, n1, c1, rfl, rfl, ghk, ghbe, gB3, gX3, gO3⟩ := hrel
      have B3 := Lib.hid gB3
      have X3 := Lib.hid gX3
      have O3 := Lib.hid gO3
      have hk := Lib.hid ghk
      have hbe := Lib.hid ghbe
      clear gB3 gX3 gO3 ghk ghbe
      have LUX3 := Lib.hid X3.out.lt
      have SBR3 := Lib.hid B3.out.size
      have hk := hk.out
      have hk16 : k ≤ 16 := by have := HW.out; omega
      have HN1 := Lib.hid (show n1 ≤ 16 by have h1 := O3.out.len; rw [List.length_map] at h1; have h2 := ou_len m k; have h3 := HW.out; omega)
      by_cases hlt : k < W
      · have hlt2 : (k : Int) < W := by omega
        have HK := Lib.hid (show (k : Int) ≤ 15 ∧ k < 16 by have := HW.out; omega)
        obtain ⟨t, ht⟩ : ∃ t, m.testBit k = t := ⟨_, rfl⟩
        have HT := Lib.hid ht
        clear ht
        have cX2 : wr.cell? ⟨w.heap.size, 2, none⟩ = some (.int .i64 (m : Int)) := X3.out.cell 2
        go_wp2_with fail
        clear cX2
        (with_reducible refine (hasB (m : Int) (k : Int) t _ (by have := HK.out; omega) (by rw [bit_test m k _ rfl]; exact HT.out)).mono ?_)
        rintro e wq ⟨rfl, rfl⟩
        cases t with
        | true =>
          have HL := Lib.hid (ou_no HT.out)
          go_wp2_with fail
          go_roundw
          case rel => exact ⟨k + 1, _, _, _, rfl, by go_num, by omega, by have hlE := LE.out; have hs0 := LTX.out; have hs1 := SS1.out; have hs2 := LWE.out; have hs3 := SS2.out; have hs4 := LUX3.out; have hs5 := SBR3.out; have hs6 := hbe.out; omega, B3.out, X3.out, (by rw [HL.out]; exact O3.out)⟩
          case measure => simp [intOf]; omega
        | false =>
          have HL := Lib.hid (show (ou m (k + 1)).map (fr s) = (ou m k).map (fr s) ++ [fr s k] by rw [ou_yes HT.out, List.map_append]; rfl)
          have HF := Lib.hid (fr_rng s k)
          have cX0 : wr.cell? ⟨w.heap.size, 0, none⟩ = some (.int .i64 s) := X3.out.cell 0
          go_wp2_with fail
          clear cX0
          (with_reducible refine (seqA s (k : Int) _ HS.out (by have := HK.out; omega)).mono ?_)
          rintro e wq ⟨rfl, rfl⟩
          have hfr : (s + (k : Int)) % 4096 = fr s k := rfl
          rw [hfr]
          clear hfr
          go_wp2_with (at_builtin; refine wpList_app _ rfl _ _ 33 rfl 3 i0 _ .i64 Try.underlying33 HZ.out.1 HZ.out.2.1 HZ.out.2.2.1 (by rw [HZ.out.2.2.2]; omega) rfl rfl rfl (O3.out.alloc _) (Rd.one .i64 _ _ _ (WalkArith.wf_i64 (by have := HF.out; omega))) (by have := HN1.out; omega) (by have hlE := LE.out; have hs0 := LTX.out; have hs1 := SS1.out; have hs2 := LWE.out; have hs3 := SS2.out; have hs4 := LUX3.out; have hs5 := SBR3.out; have hs6 := hbe.out; first | omega | (simp <;> omega)) ?_; intro A2 c2 w4 ho hb1; have hb2 : Below be wr w4 := (((Below.refl _ _).alloc (by have hlE := LE.out; have hs0 := LTX.out; have hs1 := SS1.out; have hs2 := LWE.out; have hs3 := SS2.out; have hs4 := LUX3.out; have hs5 := SBR3.out; have hs6 := hbe.out; first | omega | (simp <;> omega)) _).trans hb1); clear hb1; have B4 := Lib.hid (B3.out.trans (hb2.mono (by have hlE := LE.out; have hs0 := LTX.out; have hs1 := SS1.out; have hs2 := LWE.out; have hs3 := SS2.out; have hs4 := LUX3.out; have hs5 := SBR3.out; have hs6 := hbe.out; first | omega | (simp <;> omega)))); have X4 := Lib.hid (X3.out.up hb2 (by have hlE := LE.out; have hs0 := LTX.out; have hs1 := SS1.out; have hs2 := LWE.out; have hs3 := SS2.out; have hs4 := LUX3.out; have hs5 := SBR3.out; have hs6 := hbe.out; first | omega | (simp <;> omega))); have SS4 := Lib.hid hb2.size; have O4 := Lib.hid (show Ow 3 .i64 w4 (be) (w4.heap.size) A2 (n1 + 1) c2 ((ou m k).map (fr s) ++ [fr s k]) from ho); clear ho hb2 B3 X3 O3)
          go_roundw
          case rel => exact ⟨k + 1, A2, n1 + 1, c2, rfl, by go_num, by omega, by have hlE := LE.out; have hs0 := LTX.out; have hs1 := SS1.out; have hs2 := LWE.out; have hs3 := SS2.out; have hs4 := LUX3.out; have hs5 := SBR3.out; have hs6 := hbe.out; have hs7 := SS4.out; omega, B4.out, X4.out, (by rw [HL.out]; exact O4.out.up)⟩
          case measure => simp [intOf]; omega
      · have hlt2 : ¬ (k : Int) < W := by omega
        obtain rfl : k = W := by omega
        go_wp2_with fail
        go_ret
        rw [HOU.out]
        exact ⟨_, _, _, rfl, ((O3.out).up.down (by have hlE := LE.out; have hs0 := LTX.out; have hs1 := SS1.out; have hs2 := LWE.out; have hs3 := SS2.out; have hs4 := LUX3.out; have hs5 := SBR3.out; have hs6 := hbe.out; first | omega | (simp <;> omega))), B3.out⟩
  | false =>
    go_wp2_with fail
    have HE := Lib.hid (outs_no HV.out)
    rw [HE.out]
    go_ret
    exact ⟨_, _, _, rfl, ((O2.out).up.down (by have hlE := LE.out; have hs0 := LTX.out; have hs1 := SS1.out; have hs2 := LWE.out; have hs3 := SS2.out; first | omega | (simp <;> omega))), B2.out⟩
set_option maxRecDepth 100000 in
set_option maxHeartbeats 4000000 in
theorem specOs (s n a : Int) (w : World) :
    Calls Try.prog 19 #[.agg #[.int .i64 s, .int .i64 n, .int .i64 a]] w (SlPost 3 .i64 w (outs ⟨s, n, a⟩)) := by
  obtain ⟨i0, hi0, hz0, hz1, hz2⟩ := info_parts intInfo
  have HZ := Lib.hid (And.intro hi0 (And.intro hz0 (And.intro hz1 hz2)))
  clear hi0 hz0 hz1 hz2
  obtain ⟨v, hv⟩ : ∃ v, vs ⟨s, n, a⟩ = v := ⟨_, rfl⟩
  have HV := Lib.hid hv
  go_enter Try.func19, Try.ntmps19
  go_upto_region 1 with fail
  obtain ⟨w0, hW⟩ : ∃ w0, w.alloc (.cells #[.int .i64 s, .int .i64 n, .int .i64 a] 25) = w0 := ⟨_, rfl⟩
  rw [hW]
  have B0 := Lib.hid (show Below w.heap.size w w0 by rw [← hW]; exact (Below.refl _ _).alloc (by simp <;> omega) _)
  have X0 := Lib.hid (show Bx 25 w0 (w.heap.size) #[.int .i64 s, .int .i64 n, .int .i64 a] by
      rw [← hW]
      have hh := Bx.made 25 w #[.int .i64 s, .int .i64 n, .int .i64 a]
      exact hh)
  clear hW
  have LTX := Lib.hid X0.out.lt
  obtain ⟨be, hbb⟩ : ∃ b, w0.heap.size = b := ⟨_, rfl⟩
  go_upto_region 2 with fail
  generalize hW : w0.alloc (.cells #[] 3) = w1
  have LE := Lib.hid (show w.heap.size ≤ be ∧ w.heap.size < be by have h1 := B0.out.size; have h2X := X0.out.lt; have h3 := hbb; omega)
  have E1 := Lib.hid (show Bx 3 w1 be #[] by rw [← hW, ← hbb]; exact Bx.made _ _ _)
  have hb : Below w0.heap.size w0 w1 := by rw [← hW]; exact below_box _ _
  (try rw [hbb])
  clear hW hbb
  have SS1 := Lib.hid hb.size
  have B1 := Lib.hid (B0.out.trans (hb.mono B0.out.size))
  have X1 := Lib.hid (X0.out.below hb)
  clear hb B0 X0
  have LWE := Lib.hid E1.out.lt
  have O1 := Lib.hid (ow_bx (k := .i64) E1.out)
  clear E1
  go_wp2_with (refine stw.list_load rfl 25 _ rfl (w.heap.size) rfl 25 _ X1.out Try.underlying25 rfl szS ?_)
  (with_reducible refine (specVs s n a _).mono ?_)
  rintro e w2 hp
  obtain ⟨rfl, hb⟩ := b_parts HV.out hp
  clear hp
  have SS2 := Lib.hid hb.size
  have B2 := Lib.hid (B1.out.trans (hb.mono B1.out.size))
  have X2 := Lib.hid (X1.out.below hb)
  have O2 := Lib.hid (O1.out.below hb)
  clear hb  B1 X1 O1
  cases v with
  | true =>
    have hv := HV.out
    obtain ⟨W, m, hV⟩ := vs_of hv
    obtain rfl : a = (m : Int) := hV.ha
    have HVV := Lib.hid hV
    have HSQ := Lib.hid (show sqd s n = (W : Int) from hV.sq)
    have HS := Lib.hid (show 0 ≤ s ∧ s ≤ 4095 from hV.hs)
    have HW := Lib.hid (show W ≤ 16 ∧ m < 65536 by have h1 := hV.hw; have h2 := hV.hb; have h3 : 2 ^ W ≤ 2 ^ 16 := Nat.pow_le_pow_right (by omega) h1; omega)
    have HOU := Lib.hid (show outs ⟨s, n, (m : Int)⟩ = (ou m W).map (fr s) from hV.outs)
    clear hV
    have cX0 : w2.cell? ⟨w.heap.size, 0, none⟩ = some (.int .i64 s) := X2.out.cell 0
    have cX1 : w2.cell? ⟨w.heap.size, 1, none⟩ = some (.int .i64 n) := X2.out.cell 1
    go_wp2_with fail
    have HO9 := Lib.hid O2.out.up
    clear cX0 cX1
    go_loopw [3, 4, 5] (fun v0 v1 v2 wr => ∃ (k : Nat) (A1 : Option Addr) (n1 : Nat) (c1 : Nat), v0 = .slice A1 n1 c1 ∧ v1 = .int .i64 ((fr s k)) ∧ v2 = .int .i64 (k : Int) ∧ (k ≤ W) ∧ (be < wr.heap.size) ∧ Below w.heap.size w wr ∧ Bx 25 wr w.heap.size #[.int .i64 s, .int .i64 n, .int .i64 (m : Int)] ∧ Ow 3 .i64 wr (be) (wr.heap.size) A1 n1 c1 ((ou m k).map (fr s))) ((fun _ _ i _ => W - (intOf i).toNat))
    case atStart => exact ⟨0, _, _, _, rfl, (by unfold fr; congr 1; have := HS.out; omega), rfl, by omega, by have hlE := LE.out; have hs0 := LTX.out; have hs1 := SS1.out; have hs2 := LWE.out; have hs3 := SS2.out; omega, B2.out, X2.out, (by simpa [ou] using HO9.out)⟩
    case round =>
      obtain ⟨k, A1, n1, c1, rfl, rfl, rfl, ghk, ghbe, gB3, gX3, gO3⟩ := hrel
      have B3 := Lib.hid gB3
      have X3 := Lib.hid gX3
      have O3 := Lib.hid gO3
      have hk := Lib.hid ghk
      have hbe := Lib.hid ghbe
      clear gB3 gX3 gO3 ghk ghbe
      have LUX3 := Lib.hid X3.out.lt
      have SBR3 := Lib.hid B3.out.size
      have hk := hk.out
      have hk16 : k ≤ 16 := by have := HW.out; omega
      have HN1 := Lib.hid (show n1 ≤ 16 by have h1 := O3.out.len; rw [List.length_map] at h1; have h2 := ou_len m k; have h3 := HW.out; omega)
      have cX0 : wr.cell? ⟨w.heap.size, 0, none⟩ = some (.int .i64 s) := X3.out.cell 0
      have cX1 : wr.cell? ⟨w.heap.size, 1, none⟩ = some (.int .i64 n) := X3.out.cell 1
      go_wp2_with fail
      (with_reducible refine (specSd s n _).mono ?_)
      rw [HSQ.out]
      rintro e wq ⟨rfl, rfl⟩
      clear cX0 cX1
      by_cases hlt : k < W
      · have hlt2 : (k : Int) < W := by omega
        have HK := Lib.hid (show (k : Int) ≤ 15 ∧ k < 16 by have := HW.out; omega)
        obtain ⟨t, ht⟩ : ∃ t, m.testBit k = t := ⟨_, rfl⟩
        have HT := Lib.hid ht
        clear ht
        obtain ⟨y, hy⟩ : ∃ y, (m : Int) / 2 ^ k = y := ⟨_, rfl⟩
        have hl := low1 y
        have HY := Lib.hid (show (y % 2 == 1) = t by have h1 := HT.out; rw [← bit_test m k _ rfl] at h1; unfold bit at h1; rw [Int.toNat_natCast, hy] at h1; exact h1)
        have hk64 : (k : Int) ≤ 64 := by have := HK.out; omega
        cases t with
        | true =>
          have HL := Lib.hid (ou_no HT.out)
          have e1 : y % 2 = 1 := by simpa using HY.out
          rw [e1] at hl
          have HNX := Lib.hid (show nsq (fr s k) = fr s (k + 1) by have h1 := fr_rng s k; unfold nsq; rw [if_pos h1]; unfold fr; omega)
          clear e1
          have cX2 : wr.cell? ⟨w.heap.size, 2, none⟩ = some (.int .i64 (m : Int)) := X3.out.cell 2
          go_wp2_with fail
          (with_reducible refine (specNs (fr s k) _).mono ?_)
          rw [HNX.out]
          rintro e wq ⟨rfl, rfl⟩
          go_wp2_with fail
          clear cX2
          go_roundw
          case rel => exact ⟨k + 1, _, _, _, rfl, rfl, by go_num, by omega, by have hlE := LE.out; have hs0 := LTX.out; have hs1 := SS1.out; have hs2 := LWE.out; have hs3 := SS2.out; have hs4 := LUX3.out; have hs5 := SBR3.out; have hs6 := hbe.out; omega, B3.out, X3.out, (by rw [HL.out]; exact O3.out)⟩
          case measure => simp [intOf]; omega
        | false =>
          have HL := Lib.hid (show (ou m (k + 1)).map (fr s) = (ou m k).map (fr s) ++ [fr s k] by rw [ou_yes HT.out, List.map_append]; rfl)
          have HF := Lib.hid (fr_rng s k)
          have e1 : y % 2 = 0 := by have h2 : ¬ y % 2 = 1 := (by simpa using HY.out); omega
          rw [e1] at hl
          have HNX := Lib.hid (show nsq (fr s k) = fr s (k + 1) by have h1 := fr_rng s k; unfold nsq; rw [if_pos h1]; unfold fr; omega)
          clear e1
          have cX2 : wr.cell? ⟨w.heap.size, 2, none⟩ = some (.int .i64 (m : Int)) := X3.out.cell 2
          go_wp2_with (at_builtin; refine wpList_app _ rfl _ _ 33 rfl 3 i0 _ .i64 Try.underlying33 HZ.out.1 HZ.out.2.1 HZ.out.2.2.1 (by rw [HZ.out.2.2.2]; omega) rfl rfl rfl (O3.out.alloc _) (Rd.one .i64 _ _ _ (WalkArith.wf_i64 (by have := HF.out; omega))) (by have := HN1.out; omega) (by have hlE := LE.out; have hs0 := LTX.out; have hs1 := SS1.out; have hs2 := LWE.out; have hs3 := SS2.out; have hs4 := LUX3.out; have hs5 := SBR3.out; have hs6 := hbe.out; first | omega | (simp <;> omega)) ?_; intro A2 c2 w4 ho hb1; have hb2 : Below be wr w4 := (((Below.refl _ _).alloc (by have hlE := LE.out; have hs0 := LTX.out; have hs1 := SS1.out; have hs2 := LWE.out; have hs3 := SS2.out; have hs4 := LUX3.out; have hs5 := SBR3.out; have hs6 := hbe.out; first | omega | (simp <;> omega)) _).trans hb1); clear hb1; have B4 := Lib.hid (B3.out.trans (hb2.mono (by have hlE := LE.out; have hs0 := LTX.out; have hs1 := SS1.out; have hs2 := LWE.out; have hs3 := SS2.out; have hs4 := LUX3.out; have hs5 := SBR3.out; have hs6 := hbe.out; first | omega | (simp <;> omega)))); have X4 := Lib.hid (X3.out.up hb2 (by have hlE := LE.out; have hs0 := LTX.out; have hs1 := SS1.out; have hs2 := LWE.out; have hs3 := SS2.out; have hs4 := LUX3.out; have hs5 := SBR3.out; have hs6 := hbe.out; first | omega | (simp <;> omega))); have SS4 := Lib.hid hb2.size; have O4 := Lib.hid (show Ow 3 .i64 w4 (be) (w4.heap.size) A2 (n1 + 1) c2 ((ou m k).map (fr s) ++ [fr s k]) from ho); clear ho hb2 B3 X3 O3)
          clear cX2
          (with_reducible refine (specNs (fr s k) _).mono ?_)
          rw [HNX.out]
          rintro e wq ⟨rfl, rfl⟩
          go_wp2_with fail
          go_roundw
          case rel => exact ⟨k + 1, A2, n1 + 1, c2, rfl, rfl, by go_num, by omega, by have hlE := LE.out; have hs0 := LTX.out; have hs1 := SS1.out; have hs2 := LWE.out; have hs3 := SS2.out; have hs4 := LUX3.out; have hs5 := SBR3.out; have hs6 := hbe.out; have hs7 := SS4.out; omega, B4.out, X4.out, (by rw [HL.out]; exact O4.out.up)⟩
          case measure => simp [intOf]; omega
      · have hlt2 : ¬ (k : Int) < W := by omega
        obtain rfl : k = W := by omega
        go_wp2_with fail
        go_ret
        rw [HOU.out]
        exact ⟨_, _, _, rfl, ((O3.out).up.down (by have hlE := LE.out; have hs0 := LTX.out; have hs1 := SS1.out; have hs2 := LWE.out; have hs3 := SS2.out; have hs4 := LUX3.out; have hs5 := SBR3.out; have hs6 := hbe.out; first | omega | (simp <;> omega))), B3.out⟩
  | false =>
    go_wp2_with fail
    have HE := Lib.hid (outs_no HV.out)
    rw [HE.out]
    go_ret
    exact ⟨_, _, _, rfl, ((O2.out).up.down (by have hlE := LE.out; have hs0 := LTX.out; have hs1 := SS1.out; have hs2 := LWE.out; have hs3 := SS2.out; first | omega | (simp <;> omega))), B2.out⟩
set_option maxRecDepth 100000 in
set_option maxHeartbeats 4000000 in
theorem implDon (s n a : Int) (w : World) :
    Calls Try.prog 23 #[.agg #[.int .i64 s, .int .i64 n, .int .i64 a]] w (BPost (don ⟨s, n, a⟩) w) := by
  obtain ⟨v, hv⟩ : ∃ v, vs ⟨s, n, a⟩ = v := ⟨_, rfl⟩
  have HV := Lib.hid hv
  clear hv
  have HD := Lib.hid (show don ⟨s, n, a⟩ = (v && ((outs ⟨s, n, a⟩).length == 0)) by unfold don; rw [HV.out])
  go_enter Try.func23, Try.ntmps23
  go_wp2_with fail
  obtain ⟨w0, hW⟩ : ∃ w0, w.alloc (.cells #[.int .i64 s, .int .i64 n, .int .i64 a] 25) = w0 := ⟨_, rfl⟩
  rw [hW]
  have B0 := Lib.hid (show Below w.heap.size w w0 by rw [← hW]; exact (Below.refl _ _).alloc (by simp <;> omega) _)
  have X0 := Lib.hid (show Bx 25 w0 (w.heap.size) #[.int .i64 s, .int .i64 n, .int .i64 a] by
      rw [← hW]
      have hh := Bx.made 25 w #[.int .i64 s, .int .i64 n, .int .i64 a]
      exact hh)
  clear hW
  have LTX := Lib.hid X0.out.lt
  go_wp2_with (refine stw.list_load rfl 25 _ rfl (w.heap.size) rfl 25 _ X0.out Try.underlying25 rfl szS ?_)
  (with_reducible refine (implVs s n a _).mono ?_)
  rintro e w1 hp
  obtain ⟨rfl, hb⟩ := b_parts HV.out hp
  clear hp
  have SS1 := Lib.hid hb.size
  have B1 := Lib.hid (B0.out.trans (hb.mono B0.out.size))
  have X1 := Lib.hid (X0.out.below hb)
  clear hb  B0 X0
  cases v with
  | true =>
    have cX0 : w1.cell? ⟨w.heap.size, 0, none⟩ = some (.int .i64 s) := X1.out.cell 0
    have cX1 : w1.cell? ⟨w.heap.size, 1, none⟩ = some (.int .i64 n) := X1.out.cell 1
    have cX2 : w1.cell? ⟨w.heap.size, 2, none⟩ = some (.int .i64 a) := X1.out.cell 2
    go_wp2_with fail
    clear cX0 cX1 cX2
    (with_reducible refine (implOs s n a _).mono ?_)
    rintro e w2 ⟨A, q, c, rfl, ho, hb⟩
    have HL := Lib.hid ho.len
    clear ho
    have SS2 := Lib.hid hb.size
    have B2 := Lib.hid (B1.out.trans (hb.mono B1.out.size))
    have X2 := Lib.hid (X1.out.below hb)
    clear hb B1 X1
    rw [HL.out] at HD
    have HQ := Lib.hid (show q ≤ 16 by rw [← HL.out]; exact outs_len _)
    by_cases hq : q = 0
    · subst hq
      go_wp2_with fail
      go_ret
      rw [HD.out]
      exact ⟨rfl, B2.out⟩
    · have hq2 : ¬ (q : Int) = 0 := by omega
      have hq3 : (q == 0) = false := by simpa using hq
      go_wp2_with fail
      go_ret
      rw [HD.out]
      exact ⟨by simp [hq3, hq], B2.out⟩
  | false =>
    go_wp2_with fail
    go_ret
    rw [HD.out]
    exact ⟨rfl, B1.out⟩
set_option maxRecDepth 100000 in
set_option maxHeartbeats 4000000 in
theorem specDon (s n a : Int) (w : World) :
    Calls Try.prog 36 #[.agg #[.int .i64 s, .int .i64 n, .int .i64 a]] w (BPost (don ⟨s, n, a⟩) w) := by
  obtain ⟨v, hv⟩ : ∃ v, vs ⟨s, n, a⟩ = v := ⟨_, rfl⟩
  have HV := Lib.hid hv
  clear hv
  have HD := Lib.hid (show don ⟨s, n, a⟩ = (v && ((outs ⟨s, n, a⟩).length == 0)) by unfold don; rw [HV.out])
  go_enter Try.func36, Try.ntmps36
  go_wp2_with fail
  obtain ⟨w0, hW⟩ : ∃ w0, w.alloc (.cells #[.int .i64 s, .int .i64 n, .int .i64 a] 25) = w0 := ⟨_, rfl⟩
  rw [hW]
  have B0 := Lib.hid (show Below w.heap.size w w0 by rw [← hW]; exact (Below.refl _ _).alloc (by simp <;> omega) _)
  have X0 := Lib.hid (show Bx 25 w0 (w.heap.size) #[.int .i64 s, .int .i64 n, .int .i64 a] by
      rw [← hW]
      have hh := Bx.made 25 w #[.int .i64 s, .int .i64 n, .int .i64 a]
      exact hh)
  clear hW
  have LTX := Lib.hid X0.out.lt
  go_wp2_with (refine stw.list_load rfl 25 _ rfl (w.heap.size) rfl 25 _ X0.out Try.underlying25 rfl szS ?_)
  (with_reducible refine (specVs s n a _).mono ?_)
  rintro e w1 hp
  obtain ⟨rfl, hb⟩ := b_parts HV.out hp
  clear hp
  have SS1 := Lib.hid hb.size
  have B1 := Lib.hid (B0.out.trans (hb.mono B0.out.size))
  have X1 := Lib.hid (X0.out.below hb)
  clear hb  B0 X0
  cases v with
  | true =>
    have cX0 : w1.cell? ⟨w.heap.size, 0, none⟩ = some (.int .i64 s) := X1.out.cell 0
    have cX1 : w1.cell? ⟨w.heap.size, 1, none⟩ = some (.int .i64 n) := X1.out.cell 1
    have cX2 : w1.cell? ⟨w.heap.size, 2, none⟩ = some (.int .i64 a) := X1.out.cell 2
    go_wp2_with fail
    clear cX0 cX1 cX2
    (with_reducible refine (specOs s n a _).mono ?_)
    rintro e w2 ⟨A, q, c, rfl, ho, hb⟩
    have HL := Lib.hid ho.len
    clear ho
    have SS2 := Lib.hid hb.size
    have B2 := Lib.hid (B1.out.trans (hb.mono B1.out.size))
    have X2 := Lib.hid (X1.out.below hb)
    clear hb B1 X1
    rw [HL.out] at HD
    have HQ := Lib.hid (show q ≤ 16 by rw [← HL.out]; exact outs_len _)
    by_cases hq : q = 0
    · subst hq
      go_wp2_with fail
      go_ret
      rw [HD.out]
      exact ⟨rfl, B2.out⟩
    · have hq2 : ¬ (q : Int) = 0 := by omega
      have hq3 : (q == 0) = false := by simpa using hq
      go_wp2_with fail
      go_ret
      rw [HD.out]
      exact ⟨by simp [hq3, hq], B2.out⟩
  | false =>
    go_wp2_with fail
    go_ret
    rw [HD.out]
    exact ⟨rfl, B1.out⟩
/-- What SendNext hands back. -/
def nxt (q : Bs) : Bs × Int × Bool := if may q = true then (snx q, q.nx, true) else (q, 0, false)
def NxPost (r : Bs × Int × Bool) (w : World) (e : Ending) (w' : World) : Prop := e = .returned (.tuple #[.agg (sv r.1), .int .i64 r.2.1, .bool r.2.2]) ∧ Below w.heap.size w w'
theorem nx_parts {r : Bs × Int × Bool} {s n a x : Int} {v : Bool} (ht : r = (⟨s, n, a⟩, x, v)) {w w' : World} {e : Ending} (hp : NxPost r w e w') : e = .returned (.tuple #[.agg #[.int .i64 s, .int .i64 n, .int .i64 a], .int .i64 x, .bool v]) ∧ Below w.heap.size w w' := by subst ht; exact hp
theorem results_cell2 {fn : Func} {p u t : Tmp} {ty : TypeId} (h : fn.results = #[.cell p ty, .tmp u, .tmp t]) (tmps : Array Value) (P : Program) (w : World) :
    (results fn tmps).run P w = ((asAddr (tmps.getD p undef)).run P w).andThen fun a w₁ => ((loadVar ty a).run P w₁).andThen fun v w₂ => .ok (.tuple #[v, tmps.getD u undef, tmps.getD t undef]) w₂ := by
  simp only [results, h]
  simp [Sem.run_bind, Result.andThen]
theorem back3 {P : Program} {w : World} {b : Nat} {ty T : TypeId} {cur : Array Value} {d : TypeDesc} (hX : Bx T w b cur) (hu : P.underlying ty = some d) (hd : d.isRow = true) (hi : (P.info? ty).map (·.size) = some cur.size) (x y : Value) :
    ((asAddr (.pointer (some ⟨b, 0, none⟩))).run P w).andThen (fun a w₁ => ((loadVar ty a).run P w₁).andThen fun v w₂ => Result.ok (Value.tuple #[v, x, y]) w₂) = Result.ok (Value.tuple #[.agg cur, x, y]) w := by
  have h := back hX hu hd hi
  have e : ((asAddr (.pointer (some ⟨b, 0, none⟩))).run P w).andThen (fun a w₁ => ((loadVar ty a).run P w₁).andThen fun v w₂ => Result.ok (Value.tuple #[v, x, y]) w₂) = (((asAddr (.pointer (some ⟨b, 0, none⟩))).run P w).andThen (fun a w₁ => (loadVar ty a).run P w₁)).andThen fun v w₂ => Result.ok (Value.tuple #[v, x, y]) w₂ := by
    cases (asAddr (.pointer (some ⟨b, 0, none⟩))).run P w <;> rfl
  rw [e, h]
  rfl
set_option maxRecDepth 100000 in
set_option maxHeartbeats 4000000 in
theorem implSn (s n a : Int) (w : World) :
    Calls Try.prog 22 #[.agg #[.int .i64 s, .int .i64 n, .int .i64 a]] w (NxPost (nxt ⟨s, n, a⟩) w) := by
  obtain ⟨v, hv⟩ : ∃ v, vs ⟨s, n, a⟩ = v := ⟨_, rfl⟩
  obtain ⟨f, hf⟩ : ∃ v, ful ⟨s, n, a⟩ = v := ⟨_, rfl⟩
  obtain ⟨d, hd⟩ : ∃ v, sqd s n = v := ⟨_, rfl⟩
  have HV := Lib.hid hv
  have HD := Lib.hid hd
  have HF := Lib.hid (show (d == 16) = f by rw [← hf, ← hd]; rfl)
  have HM := Lib.hid (show may ⟨s, n, a⟩ = (v && !f) by unfold may; rw [hv, hf])
  clear hv hf hd
  go_enter Try.func22, Try.ntmps22
  go_wp2_with fail
  obtain ⟨w0, hW⟩ : ∃ w0, (w.alloc (.cells #[.int .i64 s, .int .i64 n, .int .i64 a] 25)).alloc (.cells #[.int .i64 0, .int .i64 0, .int .i64 0] 25) = w0 := ⟨_, rfl⟩
  rw [hW]
  have B0 := Lib.hid (show Below w.heap.size w w0 by rw [← hW]; exact ((Below.refl _ _).alloc (by simp <;> omega) _).alloc (by simp <;> omega) _)
  have X0 := Lib.hid (show Bx 25 w0 (w.heap.size) #[.int .i64 s, .int .i64 n, .int .i64 a] by
      rw [← hW]
      have hh := Bx.made 25 w #[.int .i64 s, .int .i64 n, .int .i64 a]
      exact (hh.below (below_box _ _)))
  have Z0 := Lib.hid (show Bx 25 w0 (w.heap.size + 1) #[.int .i64 0, .int .i64 0, .int .i64 0] by
      rw [← hW]
      have hh : Bx 25 ((w.alloc (.cells #[.int .i64 s, .int .i64 n, .int .i64 a] 25)).alloc (.cells #[.int .i64 0, .int .i64 0, .int .i64 0] 25)) (w.heap.size + 1) #[.int .i64 0, .int .i64 0, .int .i64 0] := by have hh := Bx.made 25 (w.alloc (.cells #[.int .i64 s, .int .i64 n, .int .i64 a] 25)) #[.int .i64 0, .int .i64 0, .int .i64 0]; simpa using hh
      exact hh)
  clear hW
  have LTX := Lib.hid X0.out.lt
  have LTZ := Lib.hid Z0.out.lt
  go_wp2_with (refine stw.list_load rfl 25 _ rfl (w.heap.size) rfl 25 _ X0.out Try.underlying25 rfl szS ?_)
  (with_reducible refine (implVs s n a _).mono ?_)
  rintro e w1 hp
  obtain ⟨rfl, hb⟩ := b_parts HV.out hp
  clear hp
  have SS1 := Lib.hid hb.size
  have B1 := Lib.hid (B0.out.trans (hb.mono B0.out.size))
  have X1 := Lib.hid (X0.out.below hb)
  have Z1 := Lib.hid (Z0.out.below hb)
  clear hb  B0 X0 Z0
  cases v with
  | true =>
    have cX0 : w1.cell? ⟨w.heap.size, 0, none⟩ = some (.int .i64 s) := X1.out.cell 0
    have cX1 : w1.cell? ⟨w.heap.size, 1, none⟩ = some (.int .i64 n) := X1.out.cell 1
    go_wp2_with fail
    (with_reducible refine (implSd s n _).mono ?_)
    rw [HD.out]
    rintro e wq ⟨rfl, rfl⟩
    clear cX0 cX1
    cases f with
    | true =>
      have hd : (d == 16) = true := HF.out
      have HE := Lib.hid (show nxt ⟨s, n, a⟩ = (⟨s, n, a⟩, 0, false) by unfold nxt; rw [HM.out]; rfl)
      go_wp2_with (first | (refine stw.list_load rfl 25 _ rfl (w.heap.size) rfl 25 _ X1.out Try.underlying25 rfl szS ?_) | (refine stw.list_store rfl 25 _ _ rfl (w.heap.size + 1) #[.int .i64 s, .int .i64 n, .int .i64 a] rfl rfl 25 _ Z1.out rfl szS (oneS _ _ _) ?_; intro wz2 hz))
      have B2 := Lib.hid (hz.on B1.out (by have hs0 := LTX.out; have hs1 := LTZ.out; have hs2 := SS1.out; first | omega | (simp <;> omega)))
      have X2 := Lib.hid (hz.keep X1.out (by have hs0 := LTX.out; have hs1 := LTZ.out; have hs2 := SS1.out; first | omega | (simp <;> omega)))
      have Z2 := Lib.hid (hz.box)
      clear hz B1 X1 Z1
      (try simp only [Exit.inBlock, Exit.then])
      refine bodyPost_ret (v := .tuple #[.agg #[.int .i64 s, .int .i64 n, .int .i64 a], .int .i64 0, .bool false]) ?_ rfl ?_
      · rw [results_cell2 rfl]
        exact back3 Z2.out Try.underlying25 rfl szS _ _
      · exact ⟨by rw [HE.out], B2.out⟩
    | false =>
      have hd : (d == 16) = false := HF.out
      have HE := Lib.hid (show nxt ⟨s, n, a⟩ = (⟨s, nsq n, a⟩, n, true) by unfold nxt; rw [HM.out]; rfl)
      obtain ⟨n2, hn2⟩ : ∃ x, nsq n = x := ⟨_, rfl⟩
      have HN2 := Lib.hid hn2
      rw [hn2] at HE
      clear hn2
      have cX1 : w1.cell? ⟨w.heap.size, 1, none⟩ = some (.int .i64 n) := X1.out.cell 1
      have fX1 : w1.frozen? ⟨w.heap.size, 1, none⟩ = false := X1.out.free 1
      go_wp2_with fail
      (with_reducible refine (implNs n _).mono ?_)
      rw [HN2.out]
      rintro e wq ⟨rfl, rfl⟩
      go_upto_region 5 with fail
      clear cX1 fX1
      have hWW : (w1.setCell ⟨w.heap.size, 1, none⟩ (.int .i64 n2)) = (w1.setCell ⟨w.heap.size, 1, none⟩ (.int .i64 n2)) := rfl
      obtain ⟨w2, hW⟩ : ∃ wy, (w1.setCell ⟨w.heap.size, 1, none⟩ (.int .i64 n2)) = wy := ⟨_, rfl⟩
      rw [hW]
      clear hWW
      have B2 := Lib.hid (show Below w.heap.size w w2 by rw [← hW]; exact (B1.out.setCell (p := ⟨w.heap.size, 1, none⟩) (by have hs0 := LTX.out; have hs1 := LTZ.out; have hs2 := SS1.out; first | omega | (simp <;> omega)) _))
      have X2 := Lib.hid (show Bx 25 w2 (w.heap.size) #[.int .i64 s, .int .i64 n2, .int .i64 a] by rw [← hW]; exact (X1.out.set 1 _))
      have Z2 := Lib.hid (show Bx 25 w2 (w.heap.size + 1) #[.int .i64 0, .int .i64 0, .int .i64 0] by rw [← hW]; exact (Z1.out.other (by have hs0 := LTX.out; have hs1 := LTZ.out; have hs2 := SS1.out; first | omega | (simp <;> omega)) _ _))
      clear hW B1 X1 Z1
      go_wp2_with (first | (refine stw.list_load rfl 25 _ rfl (w.heap.size) rfl 25 _ X2.out Try.underlying25 rfl szS ?_) | (refine stw.list_store rfl 25 _ _ rfl (w.heap.size + 1) #[.int .i64 s, .int .i64 n2, .int .i64 a] rfl rfl 25 _ Z2.out rfl szS (oneS _ _ _) ?_; intro wz3 hz))
      have B3 := Lib.hid (hz.on B2.out (by have hs0 := LTX.out; have hs1 := LTZ.out; have hs2 := SS1.out; first | omega | (simp <;> omega)))
      have X3 := Lib.hid (hz.keep X2.out (by have hs0 := LTX.out; have hs1 := LTZ.out; have hs2 := SS1.out; first | omega | (simp <;> omega)))
      have Z3 := Lib.hid (hz.box)
      clear hz B2 X2 Z2
      (try simp only [Exit.inBlock, Exit.then])
      refine bodyPost_ret (v := .tuple #[.agg #[.int .i64 s, .int .i64 n2, .int .i64 a], .int .i64 n, .bool true]) ?_ rfl ?_
      · rw [results_cell2 rfl]
        exact back3 Z3.out Try.underlying25 rfl szS _ _
      · exact ⟨by rw [HE.out], B3.out⟩
  | false =>
    have HE := Lib.hid (show nxt ⟨s, n, a⟩ = (⟨s, n, a⟩, 0, false) by unfold nxt; rw [HM.out]; rfl)
    go_wp2_with (first | (refine stw.list_load rfl 25 _ rfl (w.heap.size) rfl 25 _ X1.out Try.underlying25 rfl szS ?_) | (refine stw.list_store rfl 25 _ _ rfl (w.heap.size + 1) #[.int .i64 s, .int .i64 n, .int .i64 a] rfl rfl 25 _ Z1.out rfl szS (oneS _ _ _) ?_; intro wz2 hz))
    have B2 := Lib.hid (hz.on B1.out (by have hs0 := LTX.out; have hs1 := LTZ.out; have hs2 := SS1.out; first | omega | (simp <;> omega)))
    have X2 := Lib.hid (hz.keep X1.out (by have hs0 := LTX.out; have hs1 := LTZ.out; have hs2 := SS1.out; first | omega | (simp <;> omega)))
    have Z2 := Lib.hid (hz.box)
    clear hz B1 X1 Z1
    (try simp only [Exit.inBlock, Exit.then])
    refine bodyPost_ret (v := .tuple #[.agg #[.int .i64 s, .int .i64 n, .int .i64 a], .int .i64 0, .bool false]) ?_ rfl ?_
    · rw [results_cell2 rfl]
      exact back3 Z2.out Try.underlying25 rfl szS _ _
    · exact ⟨by rw [HE.out], B2.out⟩
set_option maxRecDepth 100000 in
set_option maxHeartbeats 4000000 in
theorem specSn (s n a : Int) (w : World) :
    Calls Try.prog 30 #[.agg #[.int .i64 s, .int .i64 n, .int .i64 a]] w (NxPost (nxt ⟨s, n, a⟩) w) := by
  obtain ⟨v, hv⟩ : ∃ v, vs ⟨s, n, a⟩ = v := ⟨_, rfl⟩
  obtain ⟨f, hf⟩ : ∃ v, ful ⟨s, n, a⟩ = v := ⟨_, rfl⟩
  obtain ⟨d, hd⟩ : ∃ v, sqd s n = v := ⟨_, rfl⟩
  have HV := Lib.hid hv
  have HD := Lib.hid hd
  have HF := Lib.hid (show (d == 16) = f by rw [← hf, ← hd]; rfl)
  have HM := Lib.hid (show may ⟨s, n, a⟩ = (v && !f) by unfold may; rw [hv, hf])
  clear hv hf hd
  go_enter Try.func30, Try.ntmps30
  go_wp2_with fail
  obtain ⟨w0, hW⟩ : ∃ w0, (w.alloc (.cells #[.int .i64 s, .int .i64 n, .int .i64 a] 25)).alloc (.cells #[.int .i64 0, .int .i64 0, .int .i64 0] 25) = w0 := ⟨_, rfl⟩
  rw [hW]
  have B0 := Lib.hid (show Below w.heap.size w w0 by rw [← hW]; exact ((Below.refl _ _).alloc (by simp <;> omega) _).alloc (by simp <;> omega) _)
  have X0 := Lib.hid (show Bx 25 w0 (w.heap.size) #[.int .i64 s, .int .i64 n, .int .i64 a] by
      rw [← hW]
      have hh := Bx.made 25 w #[.int .i64 s, .int .i64 n, .int .i64 a]
      exact (hh.below (below_box _ _)))
  have Z0 := Lib.hid (show Bx 25 w0 (w.heap.size + 1) #[.int .i64 0, .int .i64 0, .int .i64 0] by
      rw [← hW]
      have hh : Bx 25 ((w.alloc (.cells #[.int .i64 s, .int .i64 n, .int .i64 a] 25)).alloc (.cells #[.int .i64 0, .int .i64 0, .int .i64 0] 25)) (w.heap.size + 1) #[.int .i64 0, .int .i64 0, .int .i64 0] := by have hh := Bx.made 25 (w.alloc (.cells #[.int .i64 s, .int .i64 n, .int .i64 a] 25)) #[.int .i64 0, .int .i64 0, .int .i64 0]; simpa using hh
      exact hh)
  clear hW
  have LTX := Lib.hid X0.out.lt
  have LTZ := Lib.hid Z0.out.lt
  go_wp2_with (refine stw.list_load rfl 25 _ rfl (w.heap.size) rfl 25 _ X0.out Try.underlying25 rfl szS ?_)
  (with_reducible refine (specVs s n a _).mono ?_)
  rintro e w1 hp
  obtain ⟨rfl, hb⟩ := b_parts HV.out hp
  clear hp
  have SS1 := Lib.hid hb.size
  have B1 := Lib.hid (B0.out.trans (hb.mono B0.out.size))
  have X1 := Lib.hid (X0.out.below hb)
  have Z1 := Lib.hid (Z0.out.below hb)
  clear hb  B0 X0 Z0
  cases v with
  | true =>
    have cX0 : w1.cell? ⟨w.heap.size, 0, none⟩ = some (.int .i64 s) := X1.out.cell 0
    have cX1 : w1.cell? ⟨w.heap.size, 1, none⟩ = some (.int .i64 n) := X1.out.cell 1
    go_wp2_with fail
    (with_reducible refine (specSd s n _).mono ?_)
    rw [HD.out]
    rintro e wq ⟨rfl, rfl⟩
    clear cX0 cX1
    cases f with
    | true =>
      have hd : (d == 16) = true := HF.out
      have HE := Lib.hid (show nxt ⟨s, n, a⟩ = (⟨s, n, a⟩, 0, false) by unfold nxt; rw [HM.out]; rfl)
      go_wp2_with (first | (refine stw.list_load rfl 25 _ rfl (w.heap.size) rfl 25 _ X1.out Try.underlying25 rfl szS ?_) | (refine stw.list_store rfl 25 _ _ rfl (w.heap.size + 1) #[.int .i64 s, .int .i64 n, .int .i64 a] rfl rfl 25 _ Z1.out rfl szS (oneS _ _ _) ?_; intro wz2 hz))
      have B2 := Lib.hid (hz.on B1.out (by have hs0 := LTX.out; have hs1 := LTZ.out; have hs2 := SS1.out; first | omega | (simp <;> omega)))
      have X2 := Lib.hid (hz.keep X1.out (by have hs0 := LTX.out; have hs1 := LTZ.out; have hs2 := SS1.out; first | omega | (simp <;> omega)))
      have Z2 := Lib.hid (hz.box)
      clear hz B1 X1 Z1
      (try simp only [Exit.inBlock, Exit.then])
      refine bodyPost_ret (v := .tuple #[.agg #[.int .i64 s, .int .i64 n, .int .i64 a], .int .i64 0, .bool false]) ?_ rfl ?_
      · rw [results_cell2 rfl]
        exact back3 Z2.out Try.underlying25 rfl szS _ _
      · exact ⟨by rw [HE.out], B2.out⟩
    | false =>
      have hd : (d == 16) = false := HF.out
      have HE := Lib.hid (show nxt ⟨s, n, a⟩ = (⟨s, nsq n, a⟩, n, true) by unfold nxt; rw [HM.out]; rfl)
      obtain ⟨n2, hn2⟩ : ∃ x, nsq n = x := ⟨_, rfl⟩
      have HN2 := Lib.hid hn2
      rw [hn2] at HE
      clear hn2
      obtain ⟨bo, hbb⟩ : ∃ b, w1.heap.size = b := ⟨_, rfl⟩
      go_upto_region 4 with (refine stw.list_load rfl 25 _ rfl (w.heap.size) rfl 25 _ X1.out Try.underlying25 rfl szS ?_)
      generalize hW : w1.alloc (.cells #[.int .i64 s, .int .i64 n, .int .i64 a] 25) = w2
      have LO := Lib.hid (show w.heap.size ≤ bo ∧ w.heap.size < bo ∧ w.heap.size + 1 < bo by have h1 := B1.out.size; have h2X := X1.out.lt; have h2Z := Z1.out.lt; have h3 := hbb; omega)
      have O2 := Lib.hid (show Bx 25 w2 bo #[.int .i64 s, .int .i64 n, .int .i64 a] by rw [← hW, ← hbb]; exact Bx.made _ _ _)
      have hb : Below w1.heap.size w1 w2 := by rw [← hW]; exact below_box _ _
      (try rw [hbb])
      clear hW hbb
      have SS2 := Lib.hid hb.size
      have B2 := Lib.hid (B1.out.trans (hb.mono B1.out.size))
      have X2 := Lib.hid (X1.out.below hb)
      have Z2 := Lib.hid (Z1.out.below hb)
      clear hb B1 X1 Z1
      have LWO := Lib.hid O2.out.lt
      have cX1 : w2.cell? ⟨w.heap.size, 1, none⟩ = some (.int .i64 n) := X2.out.cell 1
      have cO1 : w2.cell? ⟨bo, 1, none⟩ = some (.int .i64 n) := O2.out.cell 1
      have fO1 : w2.frozen? ⟨bo, 1, none⟩ = false := O2.out.free 1
      go_wp2_with fail
      (with_reducible refine (specNs n _).mono ?_)
      rw [HN2.out]
      rintro e wq ⟨rfl, rfl⟩
      go_upto_region 5 with fail
      clear cX1 cO1 fO1
      have hWW : (w2.setCell ⟨bo, 1, none⟩ (.int .i64 n2)) = (w2.setCell ⟨bo, 1, none⟩ (.int .i64 n2)) := rfl
      obtain ⟨w3, hW⟩ : ∃ wy, (w2.setCell ⟨bo, 1, none⟩ (.int .i64 n2)) = wy := ⟨_, rfl⟩
      rw [hW]
      clear hWW
      have B3 := Lib.hid (show Below w.heap.size w w3 by rw [← hW]; exact (B2.out.setCell (p := ⟨bo, 1, none⟩) (by have hlO := LO.out; have hs0 := LTX.out; have hs1 := LTZ.out; have hs2 := SS1.out; have hs3 := SS2.out; have hs4 := LWO.out; first | omega | (simp <;> omega)) _))
      have X3 := Lib.hid (show Bx 25 w3 (w.heap.size) #[.int .i64 s, .int .i64 n, .int .i64 a] by rw [← hW]; exact (X2.out.other (by have hlO := LO.out; have hs0 := LTX.out; have hs1 := LTZ.out; have hs2 := SS1.out; have hs3 := SS2.out; have hs4 := LWO.out; first | omega | (simp <;> omega)) _ _))
      have Z3 := Lib.hid (show Bx 25 w3 (w.heap.size + 1) #[.int .i64 0, .int .i64 0, .int .i64 0] by rw [← hW]; exact (Z2.out.other (by have hlO := LO.out; have hs0 := LTX.out; have hs1 := LTZ.out; have hs2 := SS1.out; have hs3 := SS2.out; have hs4 := LWO.out; first | omega | (simp <;> omega)) _ _))
      have O3 := Lib.hid (show Bx 25 w3 (bo) #[.int .i64 s, .int .i64 n2, .int .i64 a] by rw [← hW]; exact (O2.out.set 1 _))
      clear hW B2 X2 Z2 O2
      have DX := Lib.hid (show Bx 25 w3.drew (w.heap.size) #[.int .i64 s, .int .i64 n, .int .i64 a] from X3.out.same rfl)
      have xX1 : w3.drew.cell? ⟨w.heap.size, 1, none⟩ = some (.int .i64 n) := DX.out.cell 1
      have xX1' : w3.cell? ⟨w.heap.size, 1, none⟩ = some (.int .i64 n) := X3.out.cell 1
      have DO := Lib.hid (show Bx 25 w3.drew (bo) #[.int .i64 s, .int .i64 n2, .int .i64 a] from O3.out.same rfl)
      have xO0 : w3.drew.cell? ⟨bo, 0, none⟩ = some (.int .i64 s) := DO.out.cell 0
      have xO0' : w3.cell? ⟨bo, 0, none⟩ = some (.int .i64 s) := O3.out.cell 0
      have xO1 : w3.drew.cell? ⟨bo, 1, none⟩ = some (.int .i64 n2) := DO.out.cell 1
      have xO1' : w3.cell? ⟨bo, 1, none⟩ = some (.int .i64 n2) := O3.out.cell 1
      have xO2 : w3.drew.cell? ⟨bo, 2, none⟩ = some (.int .i64 a) := DO.out.cell 2
      have xO2' : w3.cell? ⟨bo, 2, none⟩ = some (.int .i64 a) := O3.out.cell 2
      have DZ := Lib.hid (show Bx 25 w3.drew (w.heap.size + 1) #[.int .i64 0, .int .i64 0, .int .i64 0] from Z3.out.same rfl)
      have xZ0 : w3.drew.cell? ⟨w.heap.size + 1, 0, none⟩ = some (.int .i64 0) := DZ.out.cell 0
      have xZ0' : w3.cell? ⟨w.heap.size + 1, 0, none⟩ = some (.int .i64 0) := Z3.out.cell 0
      have xZ1 : w3.drew.cell? ⟨w.heap.size + 1, 1, none⟩ = some (.int .i64 0) := DZ.out.cell 1
      have xZ1' : w3.cell? ⟨w.heap.size + 1, 1, none⟩ = some (.int .i64 0) := Z3.out.cell 1
      have xZ2 : w3.drew.cell? ⟨w.heap.size + 1, 2, none⟩ = some (.int .i64 0) := DZ.out.cell 2
      have xZ2' : w3.cell? ⟨w.heap.size + 1, 2, none⟩ = some (.int .i64 0) := Z3.out.cell 2
      have fZ0 : w3.drew.frozen? ⟨w.heap.size + 1, 0, none⟩ = false := DZ.out.free 0
      have fZ0' : w3.frozen? ⟨w.heap.size + 1, 0, none⟩ = false := Z3.out.free 0
      have fZ1 : w3.drew.frozen? ⟨w.heap.size + 1, 1, none⟩ = false := DZ.out.free 1
      have fZ1' : w3.frozen? ⟨w.heap.size + 1, 1, none⟩ = false := Z3.out.free 1
      have fZ2 : w3.drew.frozen? ⟨w.heap.size + 1, 2, none⟩ = false := DZ.out.free 2
      have fZ2' : w3.frozen? ⟨w.heap.size + 1, 2, none⟩ = false := Z3.out.free 2
      go_region
      clear xX1 xX1' DX xO0 xO0' xO1 xO1' xO2 xO2' DO xZ0 xZ0' xZ1 xZ1' xZ2 xZ2' fZ0 fZ0' fZ1 fZ1' fZ2 fZ2' DZ
      obtain ⟨w4, hW⟩ : ∃ wy, (((w3.setCell ⟨w.heap.size + 1, 0, none⟩ (.int .i64 s)).setCell ⟨w.heap.size + 1, 1, none⟩ (.int .i64 n2)).setCell ⟨w.heap.size + 1, 2, none⟩ (.int .i64 a)).drew = wy := ⟨_, rfl⟩
      rw [hW]
      have B4 := Lib.hid (show Below w.heap.size w w4 by rw [← hW]; exact own.below_drew (((B3.out.setCell (p := ⟨w.heap.size + 1, 0, none⟩) (by have hlO := LO.out; have hs0 := LTX.out; have hs1 := LTZ.out; have hs2 := SS1.out; have hs3 := SS2.out; have hs4 := LWO.out; first | omega | (simp <;> omega)) _).setCell (p := ⟨w.heap.size + 1, 1, none⟩) (by have hlO := LO.out; have hs0 := LTX.out; have hs1 := LTZ.out; have hs2 := SS1.out; have hs3 := SS2.out; have hs4 := LWO.out; first | omega | (simp <;> omega)) _).setCell (p := ⟨w.heap.size + 1, 2, none⟩) (by have hlO := LO.out; have hs0 := LTX.out; have hs1 := LTZ.out; have hs2 := SS1.out; have hs3 := SS2.out; have hs4 := LWO.out; first | omega | (simp <;> omega)) _))
      have X4 := Lib.hid (show Bx 25 w4 (w.heap.size) #[.int .i64 s, .int .i64 n, .int .i64 a] by rw [← hW]; exact Bx.same (((X3.out.other (by have hlO := LO.out; have hs0 := LTX.out; have hs1 := LTZ.out; have hs2 := SS1.out; have hs3 := SS2.out; have hs4 := LWO.out; first | omega | (simp <;> omega)) _ _).other (by have hlO := LO.out; have hs0 := LTX.out; have hs1 := LTZ.out; have hs2 := SS1.out; have hs3 := SS2.out; have hs4 := LWO.out; first | omega | (simp <;> omega)) _ _).other (by have hlO := LO.out; have hs0 := LTX.out; have hs1 := LTZ.out; have hs2 := SS1.out; have hs3 := SS2.out; have hs4 := LWO.out; first | omega | (simp <;> omega)) _ _) rfl)
      have Z4 := Lib.hid (show Bx 25 w4 (w.heap.size + 1) #[.int .i64 s, .int .i64 n2, .int .i64 a] by rw [← hW]; exact Bx.same (((Z3.out.set 0 _).set 1 _).set 2 _) rfl)
      have O4 := Lib.hid (show Bx 25 w4 (bo) #[.int .i64 s, .int .i64 n2, .int .i64 a] by rw [← hW]; exact Bx.same (((O3.out.other (by have hlO := LO.out; have hs0 := LTX.out; have hs1 := LTZ.out; have hs2 := SS1.out; have hs3 := SS2.out; have hs4 := LWO.out; first | omega | (simp <;> omega)) _ _).other (by have hlO := LO.out; have hs0 := LTX.out; have hs1 := LTZ.out; have hs2 := SS1.out; have hs3 := SS2.out; have hs4 := LWO.out; first | omega | (simp <;> omega)) _ _).other (by have hlO := LO.out; have hs0 := LTX.out; have hs1 := LTZ.out; have hs2 := SS1.out; have hs3 := SS2.out; have hs4 := LWO.out; first | omega | (simp <;> omega)) _ _) rfl)
      clear hW B3 X3 Z3 O3
      go_wp2_with fail
      (try simp only [Exit.inBlock, Exit.then])
      refine bodyPost_ret (v := .tuple #[.agg #[.int .i64 s, .int .i64 n2, .int .i64 a], .int .i64 n, .bool true]) ?_ rfl ?_
      · rw [results_cell2 rfl]
        exact back3 Z4.out Try.underlying25 rfl szS _ _
      · exact ⟨by rw [HE.out], B4.out⟩
  | false =>
    have HE := Lib.hid (show nxt ⟨s, n, a⟩ = (⟨s, n, a⟩, 0, false) by unfold nxt; rw [HM.out]; rfl)
    go_wp2_with (first | (refine stw.list_load rfl 25 _ rfl (w.heap.size) rfl 25 _ X1.out Try.underlying25 rfl szS ?_) | (refine stw.list_store rfl 25 _ _ rfl (w.heap.size + 1) #[.int .i64 s, .int .i64 n, .int .i64 a] rfl rfl 25 _ Z1.out rfl szS (oneS _ _ _) ?_; intro wz2 hz))
    have B2 := Lib.hid (hz.on B1.out (by have hs0 := LTX.out; have hs1 := LTZ.out; have hs2 := SS1.out; first | omega | (simp <;> omega)))
    have X2 := Lib.hid (hz.keep X1.out (by have hs0 := LTX.out; have hs1 := LTZ.out; have hs2 := SS1.out; first | omega | (simp <;> omega)))
    have Z2 := Lib.hid (hz.box)
    clear hz B1 X1 Z1
    (try simp only [Exit.inBlock, Exit.then])
    refine bodyPost_ret (v := .tuple #[.agg #[.int .i64 s, .int .i64 n, .int .i64 a], .int .i64 0, .bool false]) ?_ rfl ?_
    · rw [results_cell2 rfl]
      exact back3 Z2.out Try.underlying25 rfl szS _ _
    · exact ⟨by rw [HE.out], B2.out⟩
end Go.Proofs.Ythbmnhbnoipdfaa.bs
