/- Who exists, and distances: program and specification. Condition: none. -/
import Derived.Test.YtichhbkgebimeaaBox
import Derived.Test.YtichhbkgebimeaaPlm
import Derived.BigQuiet
namespace Go.Proofs.Ytichhbkgebimeaa.bx
open Go.RowKit sl harn rng plm
set_option linter.unusedVariables false

set_option maxRecDepth 100000 in
set_option maxHeartbeats 4000000 in
theorem implPl (A : Option Addr) (n cap : Nat) (r s : Int) (z : List Int) (a : Int) (lo hi : Nat) (w : World) (h : Rd .i64 w lo hi A n cap z) :
    Calls Try.prog 44 #[.agg #[.slice A n cap, .int .i64 r, .int .i64 s], .int .i64 a] w (BPost (plc z a) w) := by
  have hl := h.len
  have hc := h.cap_
  obtain ⟨v, hv⟩ : ∃ v, plc z a = v := ⟨_, rfl⟩
  have H := Lib.hid (show decide (0 ≤ a ∧ a ≤ (n : Int) - 1) = v by rw [← hv, ← hl]; rfl)
  have hd : IntKind.i64.wrap ((n : Int) - 1) = n - 1 := IntWalk.i64_in _ (by omega)
  rw [hv]
  clear h hv hl hc
  go_enter Try.func44, Try.ntmps44
  go_wp2_with fail
  (with_reducible refine (inR _ _ _ _ _ H.out).mono ?_)
  rintro e w1 ⟨rfl, rfl⟩
  go_wp2_with fail
  go_ret
  exact ⟨rfl, below_box _ _⟩
set_option maxRecDepth 100000 in
set_option maxHeartbeats 4000000 in
theorem specPl (A : Option Addr) (n cap : Nat) (r s : Int) (z : List Int) (a : Int) (lo hi : Nat) (w : World) (h : Rd .i64 w lo hi A n cap z) :
    Calls Try.prog 52 #[.agg #[.slice A n cap, .int .i64 r, .int .i64 s], .int .i64 a] w (BPost (plc z a) w) := by
  have hl := h.len
  have hc := h.cap_
  obtain ⟨v, hv⟩ : ∃ v, plc z a = v := ⟨_, rfl⟩
  have H := Lib.hid (show decide (0 ≤ a ∧ a ≤ (n : Int) - 1) = v by rw [← hv, ← hl]; rfl)
  have hd : IntKind.i64.wrap ((n : Int) - 1) = n - 1 := IntWalk.i64_in _ (by omega)
  rw [hv]
  clear h hv hl hc
  go_enter Try.func52, Try.ntmps52
  go_wp2_with fail
  (with_reducible refine (l1R _ _ _ _ _ H.out).mono ?_)
  rintro e w1 ⟨rfl, rfl⟩
  go_wp2_with fail
  go_ret
  exact ⟨rfl, below_box _ _⟩
set_option maxRecDepth 100000 in
set_option maxHeartbeats 4000000 in
theorem implDst (A : Option Addr) (n cap : Nat) (r s : Int) (z : List Int) (a b : Int) (lo hi : Nat) (w : World) (h : Rd .i64 w lo hi A n cap z) :
    Calls Try.prog 15 #[.agg #[.slice A n cap, .int .i64 r, .int .i64 s], .int .i64 a, .int .i64 b] w (NPost (dst z a b) w) := by
  have HR := Lib.hid h
  clear h
  by_cases ha : plc z a = true
  · by_cases hb2 : plc z b = true
    · obtain ⟨i, rfl, hi1⟩ := plc_nat ha HR.out.len
      obtain ⟨j, rfl, hj1⟩ := plc_nat hb2 HR.out.len
      obtain ⟨x, hx⟩ : ∃ x, z.getD i 0 = x := ⟨_, rfl⟩
      obtain ⟨y, hy⟩ : ∃ y, z.getD j 0 = y := ⟨_, rfl⟩
      obtain ⟨m, hm⟩ : ∃ m, m = mx x y := ⟨_, rfl⟩
      obtain ⟨g, hg⟩ : ∃ g, g = mn x y := ⟨_, rfl⟩
      have HD := Lib.hid (dst_in ha hb2 ((at_nat z i).trans hx) ((at_nat z j).trans hy) hm hg)
      have HA := Lib.hid ha
      have HB := Lib.hid hb2
      have HI := Lib.hid hi1
      have HJ := Lib.hid hj1
      have HX := Lib.hid hx
      have HY := Lib.hid hy
      have HM := Lib.hid (show m = if x < y then y else x from hm)
      have HG := Lib.hid (show g = if y < x then y else x from hg)
      clear ha hb2 hi1 hj1 hx hy hm hg
      rw [HD.out]
      go_enter Try.func15, Try.ntmps15
      go_wp2_with fail
      obtain ⟨w0, hW⟩ : ∃ w0, w.alloc (.cells #[.slice A n cap, .int .i64 r, .int .i64 s] 26) = w0 := ⟨_, rfl⟩
      rw [hW]
      have B0 := Lib.hid (show Below w.heap.size w w0 by rw [← hW]; exact below_box _ _)
      have X0 := Lib.hid (show Bx 26 w0 w.heap.size #[.slice A n cap, .int .i64 r, .int .i64 s] by rw [← hW]; exact Bx.made _ _ _)
      have R0 := Lib.hid (HR.out.below (show Below w.heap.size w w0 from B0.out))
      clear hW HR
      have P0 := Lib.hid (show Calls Try.prog 44 #[.agg #[.slice A n cap, .int .i64 r, .int .i64 s], .int .i64 (i : Int)] w0 (BPost true w0) by rw [← HA.out]; exact implPl A n cap r s z (i : Int) _ _ _ R0.out)
      have c0 : w0.cell? ⟨w.heap.size, 0, none⟩ = some (.slice A n cap) := X0.out.cell 0
      have c1 : w0.cell? ⟨w.heap.size, 1, none⟩ = some (.int .i64 r) := X0.out.cell 1
      have c2 : w0.cell? ⟨w.heap.size, 2, none⟩ = some (.int .i64 s) := X0.out.cell 2
      (with_reducible refine (P0.out).mono ?_)
      rintro e w1 ⟨rfl, hb⟩
      clear P0 c0 c1 c2
      have B1 := Lib.hid (B0.out.trans (hb.mono B0.out.size))
      have X1 := Lib.hid (X0.out.below hb)
      have R1 := Lib.hid (R0.out.below hb)
      clear hb B0 X0 R0
      have P1 := Lib.hid (show Calls Try.prog 44 #[.agg #[.slice A n cap, .int .i64 r, .int .i64 s], .int .i64 (j : Int)] w1 (BPost true w1) by rw [← HB.out]; exact implPl A n cap r s z (j : Int) _ _ _ R1.out)
      have c0 : w1.cell? ⟨w.heap.size, 0, none⟩ = some (.slice A n cap) := X1.out.cell 0
      have c1 : w1.cell? ⟨w.heap.size, 1, none⟩ = some (.int .i64 r) := X1.out.cell 1
      have c2 : w1.cell? ⟨w.heap.size, 2, none⟩ = some (.int .i64 s) := X1.out.cell 2
      go_wp2_with fail
      (with_reducible refine (P1.out).mono ?_)
      rintro e w2 ⟨rfl, hb⟩
      clear P1 c0 c1 c2
      have B2 := Lib.hid (B1.out.trans (hb.mono B1.out.size))
      have X2 := Lib.hid (X1.out.below hb)
      have R2 := Lib.hid (R1.out.below hb)
      clear hb B1 X1 R1
      have c0 : w2.cell? ⟨w.heap.size, 0, none⟩ = some (.slice A n cap) := X2.out.cell 0
      have c1 : w2.cell? ⟨w.heap.size, 1, none⟩ = some (.int .i64 r) := X2.out.cell 1
      have c2 : w2.cell? ⟨w.heap.size, 2, none⟩ = some (.int .i64 s) := X2.out.cell 2
      obtain ⟨b1, f1, e1, _, _, d1⟩ := R2.out.at_ HI.out
      obtain ⟨b2, f2, e2, _, _, d2⟩ := R2.out.at_ HJ.out
      rw [HX.out] at d1
      rw [HY.out] at d2
      subst e1
      obtain ⟨rfl, rfl⟩ : b1 = b2 ∧ f1 = f2 := by simpa using e2
      have hi2 : (i : Int) < n := by have := HI.out; omega
      have hj2 : (j : Int) < n := by have := HJ.out; omega
      clear e2
      go_wp2_with fail
      go_quiet (fail)
      go_wp2_with fail
      (with_reducible refine (implMax x y m HM.out _).mono ?_)
      rintro e w3 ⟨rfl, hb⟩
      have B3 := Lib.hid (B2.out.trans ((own.below_drewN (Below.refl _ _)).trans hb |>.mono B2.out.size))
      clear hb B2
      go_wp2_with fail
      (with_reducible refine (implMin x y g HG.out _).mono ?_)
      rintro e w4 ⟨rfl, hb⟩
      have B4 := Lib.hid (B3.out.trans (hb.mono B3.out.size))
      clear hb
      go_wp2_with fail
      go_ret
      exact ⟨rfl, B4.out⟩
    · have hb3 : plc z b = false := by simpa using hb2
      rw [dst_no2 hb3]
      have HA := Lib.hid ha
      have HB := Lib.hid hb3
      clear ha hb2 hb3
      go_enter Try.func15, Try.ntmps15
      go_wp2_with fail
      obtain ⟨w0, hW⟩ : ∃ w0, w.alloc (.cells #[.slice A n cap, .int .i64 r, .int .i64 s] 26) = w0 := ⟨_, rfl⟩
      rw [hW]
      have B0 := Lib.hid (show Below w.heap.size w w0 by rw [← hW]; exact below_box _ _)
      have X0 := Lib.hid (show Bx 26 w0 w.heap.size #[.slice A n cap, .int .i64 r, .int .i64 s] by rw [← hW]; exact Bx.made _ _ _)
      have R0 := Lib.hid (HR.out.below (show Below w.heap.size w w0 from B0.out))
      clear hW HR
      have P0 := Lib.hid (show Calls Try.prog 44 #[.agg #[.slice A n cap, .int .i64 r, .int .i64 s], .int .i64 a] w0 (BPost true w0) by rw [← HA.out]; exact implPl A n cap r s z a _ _ _ R0.out)
      have c0 : w0.cell? ⟨w.heap.size, 0, none⟩ = some (.slice A n cap) := X0.out.cell 0
      have c1 : w0.cell? ⟨w.heap.size, 1, none⟩ = some (.int .i64 r) := X0.out.cell 1
      have c2 : w0.cell? ⟨w.heap.size, 2, none⟩ = some (.int .i64 s) := X0.out.cell 2
      (with_reducible refine (P0.out).mono ?_)
      rintro e w1 ⟨rfl, hb⟩
      clear P0 c0 c1 c2
      have B1 := Lib.hid (B0.out.trans (hb.mono B0.out.size))
      have X1 := Lib.hid (X0.out.below hb)
      have R1 := Lib.hid (R0.out.below hb)
      clear hb B0 X0 R0
      have P1 := Lib.hid (show Calls Try.prog 44 #[.agg #[.slice A n cap, .int .i64 r, .int .i64 s], .int .i64 b] w1 (BPost false w1) by rw [← HB.out]; exact implPl A n cap r s z b _ _ _ R1.out)
      have c0 : w1.cell? ⟨w.heap.size, 0, none⟩ = some (.slice A n cap) := X1.out.cell 0
      have c1 : w1.cell? ⟨w.heap.size, 1, none⟩ = some (.int .i64 r) := X1.out.cell 1
      have c2 : w1.cell? ⟨w.heap.size, 2, none⟩ = some (.int .i64 s) := X1.out.cell 2
      go_wp2_with fail
      (with_reducible refine (P1.out).mono ?_)
      rintro e w2 ⟨rfl, hb⟩
      clear P1 c0 c1 c2
      have B2 := Lib.hid (B1.out.trans (hb.mono B1.out.size))
      have X2 := Lib.hid (X1.out.below hb)
      have R2 := Lib.hid (R1.out.below hb)
      clear hb B1 X1 R1
      go_wp2_with fail
      go_ret
      exact ⟨rfl, B2.out⟩
  · have ha2 : plc z a = false := by simpa using ha
    rw [dst_no1 ha2]
    have HA := Lib.hid ha2
    clear ha ha2
    go_enter Try.func15, Try.ntmps15
    go_wp2_with fail
    obtain ⟨w0, hW⟩ : ∃ w0, w.alloc (.cells #[.slice A n cap, .int .i64 r, .int .i64 s] 26) = w0 := ⟨_, rfl⟩
    rw [hW]
    have B0 := Lib.hid (show Below w.heap.size w w0 by rw [← hW]; exact below_box _ _)
    have X0 := Lib.hid (show Bx 26 w0 w.heap.size #[.slice A n cap, .int .i64 r, .int .i64 s] by rw [← hW]; exact Bx.made _ _ _)
    have R0 := Lib.hid (HR.out.below (show Below w.heap.size w w0 from B0.out))
    clear hW HR
    have P0 := Lib.hid (show Calls Try.prog 44 #[.agg #[.slice A n cap, .int .i64 r, .int .i64 s], .int .i64 a] w0 (BPost false w0) by rw [← HA.out]; exact implPl A n cap r s z a _ _ _ R0.out)
    have c0 : w0.cell? ⟨w.heap.size, 0, none⟩ = some (.slice A n cap) := X0.out.cell 0
    have c1 : w0.cell? ⟨w.heap.size, 1, none⟩ = some (.int .i64 r) := X0.out.cell 1
    have c2 : w0.cell? ⟨w.heap.size, 2, none⟩ = some (.int .i64 s) := X0.out.cell 2
    (with_reducible refine (P0.out).mono ?_)
    rintro e w1 ⟨rfl, hb⟩
    clear P0 c0 c1 c2
    have B1 := Lib.hid (B0.out.trans (hb.mono B0.out.size))
    have X1 := Lib.hid (X0.out.below hb)
    have R1 := Lib.hid (R0.out.below hb)
    clear hb B0 X0 R0
    go_wp2_with fail
    go_ret
    exact ⟨rfl, B1.out⟩
set_option maxRecDepth 100000 in
set_option maxHeartbeats 4000000 in
theorem specDst (A : Option Addr) (n cap : Nat) (r s : Int) (z : List Int) (a b : Int) (lo hi : Nat) (w : World) (h : Rd .i64 w lo hi A n cap z) :
    Calls Try.prog 25 #[.agg #[.slice A n cap, .int .i64 r, .int .i64 s], .int .i64 a, .int .i64 b] w (NPost (dst z a b) w) := by
  have HR := Lib.hid h
  clear h
  by_cases ha : plc z a = true
  · by_cases hb2 : plc z b = true
    · obtain ⟨i, rfl, hi1⟩ := plc_nat ha HR.out.len
      obtain ⟨j, rfl, hj1⟩ := plc_nat hb2 HR.out.len
      obtain ⟨x, hx⟩ : ∃ x, z.getD i 0 = x := ⟨_, rfl⟩
      obtain ⟨y, hy⟩ : ∃ y, z.getD j 0 = y := ⟨_, rfl⟩
      obtain ⟨m, hm⟩ : ∃ m, m = mx x y := ⟨_, rfl⟩
      obtain ⟨g, hg⟩ : ∃ g, g = mn x y := ⟨_, rfl⟩
      have HD := Lib.hid (dst_in ha hb2 ((at_nat z i).trans hx) ((at_nat z j).trans hy) hm hg)
      have HA := Lib.hid ha
      have HB := Lib.hid hb2
      have HI := Lib.hid hi1
      have HJ := Lib.hid hj1
      have HX := Lib.hid hx
      have HY := Lib.hid hy
      have HM := Lib.hid (show m = if x < y then y else x from hm)
      have HG := Lib.hid (show g = if y < x then y else x from hg)
      clear ha hb2 hi1 hj1 hx hy hm hg
      rw [HD.out]
      go_enter Try.func25, Try.ntmps25
      go_wp2_with fail
      obtain ⟨w0, hW⟩ : ∃ w0, w.alloc (.cells #[.slice A n cap, .int .i64 r, .int .i64 s] 26) = w0 := ⟨_, rfl⟩
      rw [hW]
      have B0 := Lib.hid (show Below w.heap.size w w0 by rw [← hW]; exact below_box _ _)
      have X0 := Lib.hid (show Bx 26 w0 w.heap.size #[.slice A n cap, .int .i64 r, .int .i64 s] by rw [← hW]; exact Bx.made _ _ _)
      have R0 := Lib.hid (HR.out.below (show Below w.heap.size w w0 from B0.out))
      clear hW HR
      have P0 := Lib.hid (show Calls Try.prog 52 #[.agg #[.slice A n cap, .int .i64 r, .int .i64 s], .int .i64 (i : Int)] w0 (BPost true w0) by rw [← HA.out]; exact specPl A n cap r s z (i : Int) _ _ _ R0.out)
      have c0 : w0.cell? ⟨w.heap.size, 0, none⟩ = some (.slice A n cap) := X0.out.cell 0
      have c1 : w0.cell? ⟨w.heap.size, 1, none⟩ = some (.int .i64 r) := X0.out.cell 1
      have c2 : w0.cell? ⟨w.heap.size, 2, none⟩ = some (.int .i64 s) := X0.out.cell 2
      (with_reducible refine (P0.out).mono ?_)
      rintro e w1 ⟨rfl, hb⟩
      clear P0 c0 c1 c2
      have B1 := Lib.hid (B0.out.trans (hb.mono B0.out.size))
      have X1 := Lib.hid (X0.out.below hb)
      have R1 := Lib.hid (R0.out.below hb)
      clear hb B0 X0 R0
      have P1 := Lib.hid (show Calls Try.prog 52 #[.agg #[.slice A n cap, .int .i64 r, .int .i64 s], .int .i64 (j : Int)] w1 (BPost true w1) by rw [← HB.out]; exact specPl A n cap r s z (j : Int) _ _ _ R1.out)
      have c0 : w1.cell? ⟨w.heap.size, 0, none⟩ = some (.slice A n cap) := X1.out.cell 0
      have c1 : w1.cell? ⟨w.heap.size, 1, none⟩ = some (.int .i64 r) := X1.out.cell 1
      have c2 : w1.cell? ⟨w.heap.size, 2, none⟩ = some (.int .i64 s) := X1.out.cell 2
      go_wp2_with fail
      (with_reducible refine (P1.out).mono ?_)
      rintro e w2 ⟨rfl, hb⟩
      clear P1 c0 c1 c2
      have B2 := Lib.hid (B1.out.trans (hb.mono B1.out.size))
      have X2 := Lib.hid (X1.out.below hb)
      have R2 := Lib.hid (R1.out.below hb)
      clear hb B1 X1 R1
      have c0 : w2.cell? ⟨w.heap.size, 0, none⟩ = some (.slice A n cap) := X2.out.cell 0
      have c1 : w2.cell? ⟨w.heap.size, 1, none⟩ = some (.int .i64 r) := X2.out.cell 1
      have c2 : w2.cell? ⟨w.heap.size, 2, none⟩ = some (.int .i64 s) := X2.out.cell 2
      obtain ⟨b1, f1, e1, _, _, d1⟩ := R2.out.at_ HI.out
      obtain ⟨b2, f2, e2, _, _, d2⟩ := R2.out.at_ HJ.out
      rw [HX.out] at d1
      rw [HY.out] at d2
      subst e1
      obtain ⟨rfl, rfl⟩ : b1 = b2 ∧ f1 = f2 := by simpa using e2
      have hi2 : (i : Int) < n := by have := HI.out; omega
      have hj2 : (j : Int) < n := by have := HJ.out; omega
      clear e2
      have M := Lib.hid (fun W => (specMax x y m HM.out W).mono (fun _ _ ⟨q1, q2⟩ => ⟨q1, q2.symm⟩) : ∀ W, Calls Try.prog 53 #[.int .i64 x, .int .i64 y] W fun e w' => e = .returned (.int .i64 m) ∧ w' = W)
      have G := Lib.hid (fun W => (specMin x y g HG.out W).mono (fun _ _ ⟨q1, q2⟩ => ⟨q1, q2.symm⟩) : ∀ W, Calls Try.prog 54 #[.int .i64 x, .int .i64 y] W fun e w' => e = .returned (.int .i64 g) ∧ w' = W)
      go_wp2_with fail
      go_quiet ((first | (go_at_call 53; exact Calls.quiet_of_same (M.out _)) | (go_at_call 54; exact Calls.quiet_of_same (G.out _))))
      go_wp2_with fail
      go_ret
      exact ⟨rfl, own.below_drewN B2.out⟩
    · have hb3 : plc z b = false := by simpa using hb2
      rw [dst_no2 hb3]
      have HA := Lib.hid ha
      have HB := Lib.hid hb3
      clear ha hb2 hb3
      go_enter Try.func25, Try.ntmps25
      go_wp2_with fail
      obtain ⟨w0, hW⟩ : ∃ w0, w.alloc (.cells #[.slice A n cap, .int .i64 r, .int .i64 s] 26) = w0 := ⟨_, rfl⟩
      rw [hW]
      have B0 := Lib.hid (show Below w.heap.size w w0 by rw [← hW]; exact below_box _ _)
      have X0 := Lib.hid (show Bx 26 w0 w.heap.size #[.slice A n cap, .int .i64 r, .int .i64 s] by rw [← hW]; exact Bx.made _ _ _)
      have R0 := Lib.hid (HR.out.below (show Below w.heap.size w w0 from B0.out))
      clear hW HR
      have P0 := Lib.hid (show Calls Try.prog 52 #[.agg #[.slice A n cap, .int .i64 r, .int .i64 s], .int .i64 a] w0 (BPost true w0) by rw [← HA.out]; exact specPl A n cap r s z a _ _ _ R0.out)
      have c0 : w0.cell? ⟨w.heap.size, 0, none⟩ = some (.slice A n cap) := X0.out.cell 0
      have c1 : w0.cell? ⟨w.heap.size, 1, none⟩ = some (.int .i64 r) := X0.out.cell 1
      have c2 : w0.cell? ⟨w.heap.size, 2, none⟩ = some (.int .i64 s) := X0.out.cell 2
      (with_reducible refine (P0.out).mono ?_)
      rintro e w1 ⟨rfl, hb⟩
      clear P0 c0 c1 c2
      have B1 := Lib.hid (B0.out.trans (hb.mono B0.out.size))
      have X1 := Lib.hid (X0.out.below hb)
      have R1 := Lib.hid (R0.out.below hb)
      clear hb B0 X0 R0
      have P1 := Lib.hid (show Calls Try.prog 52 #[.agg #[.slice A n cap, .int .i64 r, .int .i64 s], .int .i64 b] w1 (BPost false w1) by rw [← HB.out]; exact specPl A n cap r s z b _ _ _ R1.out)
      have c0 : w1.cell? ⟨w.heap.size, 0, none⟩ = some (.slice A n cap) := X1.out.cell 0
      have c1 : w1.cell? ⟨w.heap.size, 1, none⟩ = some (.int .i64 r) := X1.out.cell 1
      have c2 : w1.cell? ⟨w.heap.size, 2, none⟩ = some (.int .i64 s) := X1.out.cell 2
      go_wp2_with fail
      (with_reducible refine (P1.out).mono ?_)
      rintro e w2 ⟨rfl, hb⟩
      clear P1 c0 c1 c2
      have B2 := Lib.hid (B1.out.trans (hb.mono B1.out.size))
      have X2 := Lib.hid (X1.out.below hb)
      have R2 := Lib.hid (R1.out.below hb)
      clear hb B1 X1 R1
      go_wp2_with fail
      go_ret
      exact ⟨rfl, B2.out⟩
  · have ha2 : plc z a = false := by simpa using ha
    rw [dst_no1 ha2]
    have HA := Lib.hid ha2
    clear ha ha2
    go_enter Try.func25, Try.ntmps25
    go_wp2_with fail
    obtain ⟨w0, hW⟩ : ∃ w0, w.alloc (.cells #[.slice A n cap, .int .i64 r, .int .i64 s] 26) = w0 := ⟨_, rfl⟩
    rw [hW]
    have B0 := Lib.hid (show Below w.heap.size w w0 by rw [← hW]; exact below_box _ _)
    have X0 := Lib.hid (show Bx 26 w0 w.heap.size #[.slice A n cap, .int .i64 r, .int .i64 s] by rw [← hW]; exact Bx.made _ _ _)
    have R0 := Lib.hid (HR.out.below (show Below w.heap.size w w0 from B0.out))
    clear hW HR
    have P0 := Lib.hid (show Calls Try.prog 52 #[.agg #[.slice A n cap, .int .i64 r, .int .i64 s], .int .i64 a] w0 (BPost false w0) by rw [← HA.out]; exact specPl A n cap r s z a _ _ _ R0.out)
    have c0 : w0.cell? ⟨w.heap.size, 0, none⟩ = some (.slice A n cap) := X0.out.cell 0
    have c1 : w0.cell? ⟨w.heap.size, 1, none⟩ = some (.int .i64 r) := X0.out.cell 1
    have c2 : w0.cell? ⟨w.heap.size, 2, none⟩ = some (.int .i64 s) := X0.out.cell 2
    (with_reducible refine (P0.out).mono ?_)
    rintro e w1 ⟨rfl, hb⟩
    clear P0 c0 c1 c2
    have B1 := Lib.hid (B0.out.trans (hb.mono B0.out.size))
    have X1 := Lib.hid (X0.out.below hb)
    have R1 := Lib.hid (R0.out.below hb)
    clear hb B0 X0 R0
    go_wp2_with fail
    go_ret
    exact ⟨rfl, B1.out⟩
end Go.Proofs.Ytichhbkgebimeaa.bx
