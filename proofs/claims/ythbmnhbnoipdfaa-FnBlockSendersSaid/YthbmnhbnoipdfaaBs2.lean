/- The start of the window moved over what is acknowledged, program and specification. Condition: the start is a sequence number, the set below 2^16. -/
import Derived.Test.YthbmnhbnoipdfaaBs1
namespace Go.Proofs.Ythbmnhbnoipdfaa.bs
open Go.RowKit sl harn rng bx stw
set_option linter.unusedVariables false
set_option linter.unusedSimpArgs false

/-- The third cell of a block, as a number. -/
def numAt (w : World) (b : Nat) : Nat := (intOf ((w.cell? ⟨b, 2, none⟩).getD undef)).toNat
theorem numAt_of {T : TypeId} {w : World} {b : Nat} {x y : Value} {m : Nat} (h : Bx T w b #[x, y, .int .i64 (m : Int)]) : numAt w b = m := by
  unfold numAt
  rw [Bx.cell h 2]
  simp [intOf]
set_option maxRecDepth 100000 in
set_option maxHeartbeats 4000000 in
theorem implAdv (s n : Int) (m : Nat) (hs : 0 ≤ s ∧ s ≤ 4095) (hm : m < 65536) (w : World) :
    Calls Try.prog 57 #[.agg #[.int .i64 s, .int .i64 n, .int .i64 (m : Int)]] w (SPost ⟨(adv s m).1, n, ((adv s m).2 : Int)⟩ w) := by
  have HS := Lib.hid hs
  have HM := Lib.hid hm
  clear hs hm
  have hfit : IntKind.i64.wrap (m : Int) = (m : Int) := IntWalk.i64_in _ (by have := HM.out; omega)
  clear hfit
  go_enter Try.func57, Try.ntmps57
  go_upto_region 1 with fail
  obtain ⟨w0, hW⟩ : ∃ w0, (w.alloc (.cells #[.int .i64 s, .int .i64 n, .int .i64 (m : Int)] 25)).alloc (.cells #[.int .i64 0, .int .i64 0, .int .i64 0] 25) = w0 := ⟨_, rfl⟩
  rw [hW]
  have B0 := Lib.hid (show Below w.heap.size w w0 by rw [← hW]; exact ((Below.refl _ _).alloc (by simp <;> omega) _).alloc (by simp <;> omega) _)
  have X0 := Lib.hid (show Bx 25 w0 (w.heap.size) #[.int .i64 s, .int .i64 n, .int .i64 (m : Int)] by
      rw [← hW]
      have hh := Bx.made 25 w #[.int .i64 s, .int .i64 n, .int .i64 (m : Int)]
      exact (hh.below (below_box _ _)))
  have Z0 := Lib.hid (show Bx 25 w0 (w.heap.size + 1) #[.int .i64 0, .int .i64 0, .int .i64 0] by
      rw [← hW]
      have hh : Bx 25 ((w.alloc (.cells #[.int .i64 s, .int .i64 n, .int .i64 (m : Int)] 25)).alloc (.cells #[.int .i64 0, .int .i64 0, .int .i64 0] 25)) (w.heap.size + 1) #[.int .i64 0, .int .i64 0, .int .i64 0] := by have hh := Bx.made 25 (w.alloc (.cells #[.int .i64 s, .int .i64 n, .int .i64 (m : Int)] 25)) #[.int .i64 0, .int .i64 0, .int .i64 0]; simpa using hh
      exact hh)
  clear hW
  have LTX := Lib.hid X0.out.lt
  have LTZ := Lib.hid Z0.out.lt
  go_loopw [] (fun  wr => ∃ (s1 : Int) (m1 : Nat), (0 ≤ s1 ∧ s1 ≤ 4095) ∧ (m1 < 65536) ∧ (adv s1 m1 = adv s m) ∧ Below w.heap.size w wr ∧ Bx 25 wr w.heap.size #[.int .i64 s1, .int .i64 n, .int .i64 (m1 : Int)] ∧ Bx 25 wr (w.heap.size + 1) #[.int .i64 0, .int .i64 0, .int .i64 0]) ((fun wr => numAt wr (w.heap.size)))
  case atStart => exact ⟨s, m, HS.out, HM.out, rfl, B0.out, X0.out, Z0.out⟩
  case round =>
    obtain ⟨s1, m1, ghs, ghm, ghe, gB1, gX1, gZ1⟩ := hrel
    have B1 := Lib.hid gB1
    have X1 := Lib.hid gX1
    have Z1 := Lib.hid gZ1
    have hs := Lib.hid ghs
    have hm := Lib.hid ghm
    have he := Lib.hid ghe
    clear gB1 gX1 gZ1 ghs ghm ghe
    have LUX1 := Lib.hid X1.out.lt
    have LUZ1 := Lib.hid Z1.out.lt
    have SBR1 := Lib.hid B1.out.size
    have cX0 : wr.cell? ⟨w.heap.size, 0, none⟩ = some (.int .i64 s1) := X1.out.cell 0
    have cX2 : wr.cell? ⟨w.heap.size, 2, none⟩ = some (.int .i64 (m1 : Int)) := X1.out.cell 2
    have fX0 : wr.frozen? ⟨w.heap.size, 0, none⟩ = false := X1.out.free 0
    have fX2 : wr.frozen? ⟨w.heap.size, 2, none⟩ = false := X1.out.free 2
    go_wp2_with fail
    have HX0 := X1
    by_cases ho : m1 % 2 = 1
    · (with_reducible refine (hasB (m1 : Int) 0 true _ (by omega) (by unfold bit; simp; omega)).mono ?_)
      rintro e wq ⟨rfl, rfl⟩
      clear cX0 cX2 fX0 fX2
      have HE := Lib.hid ((adv_odd ho).symm.trans he.out)
      obtain ⟨m2, hm2⟩ : ∃ x, m1 / 2 = x := ⟨_, rfl⟩
      have hdv : (m1 : Int) / 2 = (m2 : Int) := by omega
      have HM2 := Lib.hid (show m2 < m1 ∧ m2 < 65536 by have := hm.out; omega)
      rw [hm2] at HE
      obtain ⟨s2, hs2⟩ : ∃ x, nsq s1 = x := ⟨_, rfl⟩
      have HS2 := Lib.hid hs2
      have HS3 := Lib.hid (show s2 = (s1 + 1) % 4096 by rw [← hs2]; unfold nsq; rw [if_pos hs.out])
      rw [← HS3.out] at HE
      have HS4 := Lib.hid (show 0 ≤ s2 ∧ s2 ≤ 4095 by have := HS3.out; omega)
      clear hs2 hm2 ho
      have cX0 : wr.cell? ⟨w.heap.size, 0, none⟩ = some (.int .i64 s1) := X1.out.cell 0
      have cX2 : wr.cell? ⟨w.heap.size, 2, none⟩ = some (.int .i64 (m1 : Int)) := X1.out.cell 2
      have fX0 : wr.frozen? ⟨w.heap.size, 0, none⟩ = false := X1.out.free 0
      have fX2 : wr.frozen? ⟨w.heap.size, 2, none⟩ = false := X1.out.free 2
      go_wp2_with fail
      (with_reducible refine (implNs s1 _).mono ?_)
      rw [HS2.out]
      rintro e wq ⟨rfl, rfl⟩
      go_wp2_with fail
      clear cX0 cX2 fX0 fX2
      have hWW : ((wr.setCell ⟨w.heap.size, 0, none⟩ (.int .i64 s2)).setCell ⟨w.heap.size, 2, none⟩ (.int .i64 (m2 : Int))) = ((wr.setCell ⟨w.heap.size, 0, none⟩ (.int .i64 s2)).setCell ⟨w.heap.size, 2, none⟩ (.int .i64 (m2 : Int))) := rfl
      obtain ⟨w2, hW⟩ : ∃ wy, ((wr.setCell ⟨w.heap.size, 0, none⟩ (.int .i64 s2)).setCell ⟨w.heap.size, 2, none⟩ (.int .i64 (m2 : Int))) = wy := ⟨_, rfl⟩
      rw [hW]
      clear hWW
      have B2 := Lib.hid (show Below w.heap.size w w2 by rw [← hW]; exact ((B1.out.setCell (p := ⟨w.heap.size, 0, none⟩) (by have hs0 := LTX.out; have hs1 := LTZ.out; have hs2 := LUX1.out; have hs3 := LUZ1.out; have hs4 := SBR1.out; first | omega | (simp <;> omega)) _).setCell (p := ⟨w.heap.size, 2, none⟩) (by have hs0 := LTX.out; have hs1 := LTZ.out; have hs2 := LUX1.out; have hs3 := LUZ1.out; have hs4 := SBR1.out; first | omega | (simp <;> omega)) _))
      have X2 := Lib.hid (show Bx 25 w2 (w.heap.size) #[.int .i64 s2, .int .i64 n, .int .i64 (m2 : Int)] by rw [← hW]; exact ((X1.out.set 0 _).set 2 _))
      have Z2 := Lib.hid (show Bx 25 w2 (w.heap.size + 1) #[.int .i64 0, .int .i64 0, .int .i64 0] by rw [← hW]; exact ((Z1.out.other (by have hs0 := LTX.out; have hs1 := LTZ.out; have hs2 := LUX1.out; have hs3 := LUZ1.out; have hs4 := SBR1.out; first | omega | (simp <;> omega)) _ _).other (by have hs0 := LTX.out; have hs1 := LTZ.out; have hs2 := LUX1.out; have hs3 := LUZ1.out; have hs4 := SBR1.out; first | omega | (simp <;> omega)) _ _))
      clear hW B1 X1 Z1
      go_roundw
      case rel => exact ⟨s2, m2, HS4.out, HM2.out.2, HE.out, B2.out, X2.out, Z2.out⟩
      case measure => show numAt _ (w.heap.size) < numAt _ (w.heap.size); rw [numAt_of X2.out, numAt_of HX0.out]; exact HM2.out.1
    · (with_reducible refine (hasB (m1 : Int) 0 false _ (by omega) (by unfold bit; simp; omega)).mono ?_)
      rintro e wq ⟨rfl, rfl⟩
      clear cX0 cX2 fX0 fX2
      have HE := Lib.hid ((adv_even ho).symm.trans he.out)
      clear ho
      go_wp2_with (first | (refine stw.list_load rfl 25 _ rfl (w.heap.size) rfl 25 _ X1.out Try.underlying25 rfl szS ?_) | (refine stw.list_store rfl 25 _ _ rfl (w.heap.size + 1) #[.int .i64 s1, .int .i64 n, .int .i64 (m1 : Int)] rfl rfl 25 _ Z1.out rfl szS (oneS _ _ _) ?_; intro wz2 hz))
      have B2 := Lib.hid (hz.on B1.out (by have hs0 := LTX.out; have hs1 := LTZ.out; have hs2 := LUX1.out; have hs3 := LUZ1.out; have hs4 := SBR1.out; first | omega | (simp <;> omega)))
      have X2 := Lib.hid (hz.keep X1.out (by have hs0 := LTX.out; have hs1 := LTZ.out; have hs2 := LUX1.out; have hs3 := LUZ1.out; have hs4 := SBR1.out; first | omega | (simp <;> omega)))
      have Z2 := Lib.hid (hz.box)
      clear hz B1 X1 Z1
      (try simp only [Exit.inBlock, Exit.then])
      refine bodyPost_ret (v := .agg #[.int .i64 s1, .int .i64 n, .int .i64 (m1 : Int)]) ?_ rfl ?_
      · rw [results_cell1 rfl]
        exact stw.back Z2.out Try.underlying25 rfl szS
      · exact ⟨by rw [← HE.out], B2.out⟩
set_option maxRecDepth 100000 in
set_option maxHeartbeats 4000000 in
theorem specAdv (s n : Int) (m : Nat) (hs : 0 ≤ s ∧ s ≤ 4095) (hm : m < 65536) (w : World) :
    Calls Try.prog 51 #[.agg #[.int .i64 s, .int .i64 n, .int .i64 (m : Int)]] w (SPost ⟨(adv s m).1, n, ((adv s m).2 : Int)⟩ w) := by
  have HS := Lib.hid hs
  have HM := Lib.hid hm
  clear hs hm
  have hfit : IntKind.i64.wrap (m : Int) = (m : Int) := IntWalk.i64_in _ (by have := HM.out; omega)
  clear hfit
  go_enter Try.func51, Try.ntmps51
  go_upto_region 1 with fail
  obtain ⟨w0, hW⟩ : ∃ w0, (w.alloc (.cells #[.int .i64 s, .int .i64 n, .int .i64 (m : Int)] 25)).alloc (.cells #[.int .i64 0, .int .i64 0, .int .i64 0] 25) = w0 := ⟨_, rfl⟩
  rw [hW]
  have B0 := Lib.hid (show Below w.heap.size w w0 by rw [← hW]; exact ((Below.refl _ _).alloc (by simp <;> omega) _).alloc (by simp <;> omega) _)
  have X0 := Lib.hid (show Bx 25 w0 (w.heap.size) #[.int .i64 s, .int .i64 n, .int .i64 (m : Int)] by
      rw [← hW]
      have hh := Bx.made 25 w #[.int .i64 s, .int .i64 n, .int .i64 (m : Int)]
      exact (hh.below (below_box _ _)))
  have Z0 := Lib.hid (show Bx 25 w0 (w.heap.size + 1) #[.int .i64 0, .int .i64 0, .int .i64 0] by
      rw [← hW]
      have hh : Bx 25 ((w.alloc (.cells #[.int .i64 s, .int .i64 n, .int .i64 (m : Int)] 25)).alloc (.cells #[.int .i64 0, .int .i64 0, .int .i64 0] 25)) (w.heap.size + 1) #[.int .i64 0, .int .i64 0, .int .i64 0] := by have hh := Bx.made 25 (w.alloc (.cells #[.int .i64 s, .int .i64 n, .int .i64 (m : Int)] 25)) #[.int .i64 0, .int .i64 0, .int .i64 0]; simpa using hh
      exact hh)
  clear hW
  have LTX := Lib.hid X0.out.lt
  have LTZ := Lib.hid Z0.out.lt
  obtain ⟨bo, hbb⟩ : ∃ b, w0.heap.size = b := ⟨_, rfl⟩
  go_upto_region 2 with (refine stw.list_load rfl 25 _ rfl (w.heap.size) rfl 25 _ X0.out Try.underlying25 rfl szS ?_)
  generalize hW : w0.alloc (.cells #[.int .i64 s, .int .i64 n, .int .i64 (m : Int)] 25) = w1
  have LO := Lib.hid (show w.heap.size ≤ bo ∧ w.heap.size < bo ∧ w.heap.size + 1 < bo by have h1 := B0.out.size; have h2X := X0.out.lt; have h2Z := Z0.out.lt; have h3 := hbb; omega)
  have O1 := Lib.hid (show Bx 25 w1 bo #[.int .i64 s, .int .i64 n, .int .i64 (m : Int)] by rw [← hW, ← hbb]; exact Bx.made _ _ _)
  have hb : Below w0.heap.size w0 w1 := by rw [← hW]; exact below_box _ _
  (try rw [hbb])
  clear hW hbb
  have SS1 := Lib.hid hb.size
  have B1 := Lib.hid (B0.out.trans (hb.mono B0.out.size))
  have X1 := Lib.hid (X0.out.below hb)
  have Z1 := Lib.hid (Z0.out.below hb)
  clear hb B0 X0 Z0
  have LWO := Lib.hid O1.out.lt
  go_loopw [] (fun  wr => ∃ (s1 : Int) (m1 : Nat), (0 ≤ s1 ∧ s1 ≤ 4095) ∧ (m1 < 65536) ∧ (adv s1 m1 = adv s m) ∧ Below w.heap.size w wr ∧ Bx 25 wr w.heap.size #[.int .i64 s, .int .i64 n, .int .i64 (m : Int)] ∧ Bx 25 wr (w.heap.size + 1) #[.int .i64 0, .int .i64 0, .int .i64 0] ∧ Bx 25 wr bo #[.int .i64 s1, .int .i64 n, .int .i64 (m1 : Int)]) ((fun wr => numAt wr (bo)))
  case atStart => exact ⟨s, m, HS.out, HM.out, rfl, B1.out, X1.out, Z1.out, O1.out⟩
  case round =>
    obtain ⟨s1, m1, ghs, ghm, ghe, gB2, gX2, gZ2, gO2⟩ := hrel
    have B2 := Lib.hid gB2
    have X2 := Lib.hid gX2
    have Z2 := Lib.hid gZ2
    have O2 := Lib.hid gO2
    have hs := Lib.hid ghs
    have hm := Lib.hid ghm
    have he := Lib.hid ghe
    clear gB2 gX2 gZ2 gO2 ghs ghm ghe
    have LUX2 := Lib.hid X2.out.lt
    have LUZ2 := Lib.hid Z2.out.lt
    have LUO2 := Lib.hid O2.out.lt
    have SBR2 := Lib.hid B2.out.size
    have cO0 : wr.cell? ⟨bo, 0, none⟩ = some (.int .i64 s1) := O2.out.cell 0
    have cO2 : wr.cell? ⟨bo, 2, none⟩ = some (.int .i64 (m1 : Int)) := O2.out.cell 2
    have fO0 : wr.frozen? ⟨bo, 0, none⟩ = false := O2.out.free 0
    have fO2 : wr.frozen? ⟨bo, 2, none⟩ = false := O2.out.free 2
    have HX0 := O2
    by_cases ho : m1 % 2 = 1
    · have hl : bits .and .i64 (m1 : Int) 1 = 1 := by rw [low1]; omega
      have HE := Lib.hid ((adv_odd ho).symm.trans he.out)
      obtain ⟨m2, hm2⟩ : ∃ x, m1 / 2 = x := ⟨_, rfl⟩
      have hdv : (m1 : Int) / 2 = (m2 : Int) := by omega
      have HM2 := Lib.hid (show m2 < m1 ∧ m2 < 65536 by have := hm.out; omega)
      rw [hm2] at HE
      obtain ⟨s2, hs2⟩ : ∃ x, nsq s1 = x := ⟨_, rfl⟩
      have HS2 := Lib.hid hs2
      have HS3 := Lib.hid (show s2 = (s1 + 1) % 4096 by rw [← hs2]; unfold nsq; rw [if_pos hs.out])
      rw [← HS3.out] at HE
      have HS4 := Lib.hid (show 0 ≤ s2 ∧ s2 ≤ 4095 by have := HS3.out; omega)
      clear hs2 hm2 ho
      have cO0 : wr.cell? ⟨bo, 0, none⟩ = some (.int .i64 s1) := O2.out.cell 0
      have cO2 : wr.cell? ⟨bo, 2, none⟩ = some (.int .i64 (m1 : Int)) := O2.out.cell 2
      have fO0 : wr.frozen? ⟨bo, 0, none⟩ = false := O2.out.free 0
      have fO2 : wr.frozen? ⟨bo, 2, none⟩ = false := O2.out.free 2
      go_wp2_with fail
      (with_reducible refine (specNs s1 _).mono ?_)
      rw [HS2.out]
      rintro e wq ⟨rfl, rfl⟩
      go_wp2_with fail
      clear cO0 cO2 fO0 fO2
      have hWW : ((wr.setCell ⟨bo, 0, none⟩ (.int .i64 s2)).setCell ⟨bo, 2, none⟩ (.int .i64 (m2 : Int))) = ((wr.setCell ⟨bo, 0, none⟩ (.int .i64 s2)).setCell ⟨bo, 2, none⟩ (.int .i64 (m2 : Int))) := rfl
      obtain ⟨w3, hW⟩ : ∃ wy, ((wr.setCell ⟨bo, 0, none⟩ (.int .i64 s2)).setCell ⟨bo, 2, none⟩ (.int .i64 (m2 : Int))) = wy := ⟨_, rfl⟩
      rw [hW]
      clear hWW
      have B3 := Lib.hid (show Below w.heap.size w w3 by rw [← hW]; exact ((B2.out.setCell (p := ⟨bo, 0, none⟩) (by have hlO := LO.out; have hs0 := LTX.out; have hs1 := LTZ.out; have hs2 := SS1.out; have hs3 := LWO.out; have hs4 := LUX2.out; have hs5 := LUZ2.out; have hs6 := LUO2.out; have hs7 := SBR2.out; first | omega | (simp <;> omega)) _).setCell (p := ⟨bo, 2, none⟩) (by have hlO := LO.out; have hs0 := LTX.out; have hs1 := LTZ.out; have hs2 := SS1.out; have hs3 := LWO.out; have hs4 := LUX2.out; have hs5 := LUZ2.out; have hs6 := LUO2.out; have hs7 := SBR2.out; first | omega | (simp <;> omega)) _))
      have X3 := Lib.hid (show Bx 25 w3 (w.heap.size) #[.int .i64 s, .int .i64 n, .int .i64 (m : Int)] by rw [← hW]; exact ((X2.out.other (by have hlO := LO.out; have hs0 := LTX.out; have hs1 := LTZ.out; have hs2 := SS1.out; have hs3 := LWO.out; have hs4 := LUX2.out; have hs5 := LUZ2.out; have hs6 := LUO2.out; have hs7 := SBR2.out; first | omega | (simp <;> omega)) _ _).other (by have hlO := LO.out; have hs0 := LTX.out; have hs1 := LTZ.out; have hs2 := SS1.out; have hs3 := LWO.out; have hs4 := LUX2.out; have hs5 := LUZ2.out; have hs6 := LUO2.out; have hs7 := SBR2.out; first | omega | (simp <;> omega)) _ _))
      have Z3 := Lib.hid (show Bx 25 w3 (w.heap.size + 1) #[.int .i64 0, .int .i64 0, .int .i64 0] by rw [← hW]; exact ((Z2.out.other (by have hlO := LO.out; have hs0 := LTX.out; have hs1 := LTZ.out; have hs2 := SS1.out; have hs3 := LWO.out; have hs4 := LUX2.out; have hs5 := LUZ2.out; have hs6 := LUO2.out; have hs7 := SBR2.out; first | omega | (simp <;> omega)) _ _).other (by have hlO := LO.out; have hs0 := LTX.out; have hs1 := LTZ.out; have hs2 := SS1.out; have hs3 := LWO.out; have hs4 := LUX2.out; have hs5 := LUZ2.out; have hs6 := LUO2.out; have hs7 := SBR2.out; first | omega | (simp <;> omega)) _ _))
      have O3 := Lib.hid (show Bx 25 w3 (bo) #[.int .i64 s2, .int .i64 n, .int .i64 (m2 : Int)] by rw [← hW]; exact ((O2.out.set 0 _).set 2 _))
      clear hW B2 X2 Z2 O2
      go_roundw
      case rel => exact ⟨s2, m2, HS4.out, HM2.out.2, HE.out, B3.out, X3.out, Z3.out, O3.out⟩
      case measure => show numAt _ (bo) < numAt _ (bo); rw [numAt_of O3.out, numAt_of HX0.out]; exact HM2.out.1
    · have hl : bits .and .i64 (m1 : Int) 1 = 0 := by rw [low1]; omega
      have HE := Lib.hid ((adv_even ho).symm.trans he.out)
      clear ho
      go_wp2_with (first | (refine stw.list_load rfl 25 _ rfl (bo) rfl 25 _ O2.out Try.underlying25 rfl szS ?_) | (refine stw.list_store rfl 25 _ _ rfl (w.heap.size + 1) #[.int .i64 s1, .int .i64 n, .int .i64 (m1 : Int)] rfl rfl 25 _ Z2.out rfl szS (oneS _ _ _) ?_; intro wz3 hz))
      have B3 := Lib.hid (hz.on B2.out (by have hlO := LO.out; have hs0 := LTX.out; have hs1 := LTZ.out; have hs2 := SS1.out; have hs3 := LWO.out; have hs4 := LUX2.out; have hs5 := LUZ2.out; have hs6 := LUO2.out; have hs7 := SBR2.out; first | omega | (simp <;> omega)))
      have X3 := Lib.hid (hz.keep X2.out (by have hlO := LO.out; have hs0 := LTX.out; have hs1 := LTZ.out; have hs2 := SS1.out; have hs3 := LWO.out; have hs4 := LUX2.out; have hs5 := LUZ2.out; have hs6 := LUO2.out; have hs7 := SBR2.out; first | omega | (simp <;> omega)))
      have Z3 := Lib.hid (hz.box)
      have O3 := Lib.hid (hz.keep O2.out (by have hlO := LO.out; have hs0 := LTX.out; have hs1 := LTZ.out; have hs2 := SS1.out; have hs3 := LWO.out; have hs4 := LUX2.out; have hs5 := LUZ2.out; have hs6 := LUO2.out; have hs7 := SBR2.out; first | omega | (simp <;> omega)))
      clear hz B2 X2 Z2 O2
      (try simp only [Exit.inBlock, Exit.then])
      refine bodyPost_ret (v := .agg #[.int .i64 s1, .int .i64 n, .int .i64 (m1 : Int)]) ?_ rfl ?_
      · rw [results_cell1 rfl]
        exact stw.back Z3.out Try.underlying25 rfl szS
      · exact ⟨by rw [← HE.out], B3.out⟩
end Go.Proofs.Ythbmnhbnoipdfaa.bs
