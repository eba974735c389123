/- The functions over reservations but HearFrame, program and specification. Condition: none. -/
import Derived.Test.YtebbnopconbnlaaRsm
import Derived.Test.YtebbnopconbnlaaFbx
import Derived.Test.YtebbnopconbnlaaStv
import Derived.Test.YtebbnopconbnlaaRgs
import Derived.Deep.Cut
namespace Go.Proofs.Ytebbnopconbnlaa.bx
open Go.RowKit sl harn rng rsm stw
set_option linter.unusedVariables false
set_option linter.unusedSimpArgs false

theorem szR : (Try.prog.info? 25).map (·.size) = some 3 := by kernel_rfl
theorem szM : (Try.prog.info? 27).map (·.size) = some 9 := by kernel_rfl
theorem oneR (a b c : Int) : (#[.int .i64 a, .int .i64 b, .int .i64 c] : Array Value).all (·.oneCell') = true :=
  all_oneCell_toArray (cs := [.int .i64 a, .int .i64 b, .int .i64 c]) (by intro v hv; simp only [List.mem_cons, List.not_mem_nil, or_false] at hv; rcases hv with rfl | rfl | rfl <;> rfl)
theorem oneM (k f t s g : Int) (m r : Bool) (d : Int) (A : Option Addr) (n cap : Nat) : (#[.int .i64 k, .int .i64 f, .int .i64 t, .int .i64 s, .int .i64 g, .bool m, .bool r, .int .i64 d, .slice A n cap] : Array Value).all (·.oneCell') = true :=
  all_oneCell_toArray (cs := [.int .i64 k, .int .i64 f, .int .i64 t, .int .i64 s, .int .i64 g, .bool m, .bool r, .int .i64 d, .slice A n cap]) (by intro v hv; simp only [List.mem_cons, List.not_mem_nil, or_false] at hv; rcases hv with rfl | rfl | rfl | rfl | rfl | rfl | rfl | rfl | rfl <;> rfl)
/-- A reservation's three numbers. -/
abbrev rvv (q : Rv) : Array Value := #[.int .i64 q.u, .int .i64 q.h, .int .i64 q.b]
/-- What a function hands back that is a reservation. -/
def RPost (q : Rv) (w : World) (e : Ending) (w' : World) : Prop := e = .returned (.agg (rvv q)) ∧ Below w.heap.size w w'
theorem r_parts {q : Rv} {u h b : Int} (ht : q = ⟨u, h, b⟩) {w w' : World} {e : Ending} (hp : RPost q w e w') : e = .returned (.agg #[.int .i64 u, .int .i64 h, .int .i64 b]) ∧ Below w.heap.size w w' := by subst ht; exact hp

set_option maxRecDepth 100000 in
set_option maxHeartbeats 4000000 in
theorem implVr (u h b : Int) (w : World) :
    Calls Try.prog 15 #[.agg #[.int .i64 u, .int .i64 h, .int .i64 b]] w (BPost (vr ⟨u, h, b⟩) w) := by
  obtain ⟨v0, h0⟩ : ∃ v, decide (0 ≤ u ∧ u ≤ 1000000000000) = v := ⟨_, rfl⟩
  obtain ⟨v1, h1⟩ : ∃ v, decide (0 ≤ h ∧ h ≤ 15) = v := ⟨_, rfl⟩
  obtain ⟨v2, h2⟩ : ∃ v, decide (0 ≤ b ∧ b ≤ 15) = v := ⟨_, rfl⟩
  have HV := Lib.hid (show vr ⟨u, h, b⟩ = (v0 && v1 && v2) by unfold vr; rw [← h0, ← h1, ← h2])
  have H0 := Lib.hid h0
  have H1 := Lib.hid h1
  have H2 := Lib.hid h2
  clear h0 h1 h2
  go_enter Try.func15, Try.ntmps15
  go_wp2_with fail
  obtain ⟨w0, hW⟩ : ∃ w0, w.alloc (.cells #[.int .i64 u, .int .i64 h, .int .i64 b] 25) = w0 := ⟨_, rfl⟩
  rw [hW]
  have B0 := Lib.hid (show Below w.heap.size w w0 by rw [← hW]; exact (Below.refl _ _).alloc (by simp <;> omega) _)
  have X0 := Lib.hid (show Bx 25 w0 (w.heap.size) #[.int .i64 u, .int .i64 h, .int .i64 b] by
      rw [← hW]
      have hh := Bx.made 25 w #[.int .i64 u, .int .i64 h, .int .i64 b]
      exact hh)
  clear hW
  have cX0 : w0.cell? ⟨w.heap.size, 0, none⟩ = some (.int .i64 u) := X0.out.cell 0
  have cX1 : w0.cell? ⟨w.heap.size, 1, none⟩ = some (.int .i64 h) := X0.out.cell 1
  have cX2 : w0.cell? ⟨w.heap.size, 2, none⟩ = some (.int .i64 b) := X0.out.cell 2
  go_wp2_with fail
  (with_reducible refine (inR u 0 1000000000000 v0 _ H0.out).mono ?_)
  rintro e wq ⟨rfl, rfl⟩
  cases v0 with
  | true =>
    go_wp2_with fail
    (with_reducible refine (fbx.isStn h v1 _ H1.out).mono ?_)
    rintro e wq ⟨rfl, rfl⟩
    cases v1 with
    | true =>
      go_wp2_with fail
      (with_reducible refine (fbx.isStn b v2 _ H2.out).mono ?_)
      rintro e wq ⟨rfl, rfl⟩
      cases v2 with
      | true =>
        go_wp2_with fail
        go_ret
        rw [HV.out]
        exact ⟨by simp, B0.out⟩
      | false =>
        go_wp2_with fail
        go_ret
        rw [HV.out]
        exact ⟨by simp, B0.out⟩
    | false =>
      go_wp2_with fail
      go_ret
      rw [HV.out]
      exact ⟨by simp, B0.out⟩
  | false =>
    go_wp2_with fail
    go_ret
    rw [HV.out]
    exact ⟨by simp, B0.out⟩
set_option maxRecDepth 100000 in
set_option maxHeartbeats 4000000 in
theorem specVr (u h b : Int) (w : World) :
    Calls Try.prog 17 #[.agg #[.int .i64 u, .int .i64 h, .int .i64 b]] w (BPost (vr ⟨u, h, b⟩) w) := by
  obtain ⟨v0, h0⟩ : ∃ v, decide (0 ≤ u ∧ u ≤ 1000000000000) = v := ⟨_, rfl⟩
  obtain ⟨v1, h1⟩ : ∃ v, decide (0 ≤ h ∧ h ≤ 15) = v := ⟨_, rfl⟩
  obtain ⟨v2, h2⟩ : ∃ v, decide (0 ≤ b ∧ b ≤ 15) = v := ⟨_, rfl⟩
  have HV := Lib.hid (show vr ⟨u, h, b⟩ = (v0 && v1 && v2) by unfold vr; rw [← h0, ← h1, ← h2])
  have H0 := Lib.hid h0
  have H1 := Lib.hid h1
  have H2 := Lib.hid h2
  clear h0 h1 h2
  go_enter Try.func17, Try.ntmps17
  go_wp2_with fail
  obtain ⟨w0, hW⟩ : ∃ w0, w.alloc (.cells #[.int .i64 u, .int .i64 h, .int .i64 b] 25) = w0 := ⟨_, rfl⟩
  rw [hW]
  have B0 := Lib.hid (show Below w.heap.size w w0 by rw [← hW]; exact (Below.refl _ _).alloc (by simp <;> omega) _)
  have X0 := Lib.hid (show Bx 25 w0 (w.heap.size) #[.int .i64 u, .int .i64 h, .int .i64 b] by
      rw [← hW]
      have hh := Bx.made 25 w #[.int .i64 u, .int .i64 h, .int .i64 b]
      exact hh)
  clear hW
  have cX0 : w0.cell? ⟨w.heap.size, 0, none⟩ = some (.int .i64 u) := X0.out.cell 0
  have cX1 : w0.cell? ⟨w.heap.size, 1, none⟩ = some (.int .i64 h) := X0.out.cell 1
  have cX2 : w0.cell? ⟨w.heap.size, 2, none⟩ = some (.int .i64 b) := X0.out.cell 2
  go_wp2_with fail
  (with_reducible refine (l1R u 0 1000000000000 v0 _ H0.out).mono ?_)
  rintro e wq ⟨rfl, rfl⟩
  cases v0 with
  | true =>
    go_wp2_with fail
    (with_reducible refine (l1R h 0 15 v1 _ H1.out).mono ?_)
    rintro e wq ⟨rfl, rfl⟩
    cases v1 with
    | true =>
      go_wp2_with fail
      (with_reducible refine (l1R b 0 15 v2 _ H2.out).mono ?_)
      rintro e wq ⟨rfl, rfl⟩
      cases v2 with
      | true =>
        go_wp2_with fail
        go_ret
        rw [HV.out]
        exact ⟨by simp, B0.out⟩
      | false =>
        go_wp2_with fail
        go_ret
        rw [HV.out]
        exact ⟨by simp, B0.out⟩
    | false =>
      go_wp2_with fail
      go_ret
      rw [HV.out]
      exact ⟨by simp, B0.out⟩
  | false =>
    go_wp2_with fail
    go_ret
    rw [HV.out]
    exact ⟨by simp, B0.out⟩
set_option maxRecDepth 100000 in
set_option maxHeartbeats 4000000 in
theorem implIr (u h b n : Int) (w : World) :
    Calls Try.prog 19 #[.agg #[.int .i64 u, .int .i64 h, .int .i64 b], .int .i64 n] w (BPost (isr ⟨u, h, b⟩ n) w) := by
  go_enter Try.func19, Try.ntmps19
  go_wp2
  go_ret
  exact ⟨rfl, below_box _ _⟩
set_option maxRecDepth 100000 in
set_option maxHeartbeats 4000000 in
theorem specIr (u h b n : Int) (w : World) :
    Calls Try.prog 27 #[.agg #[.int .i64 u, .int .i64 h, .int .i64 b], .int .i64 n] w (BPost (isr ⟨u, h, b⟩ n) w) := by
  go_enter Try.func27, Try.ntmps27
  go_wp2
  go_ret
  exact ⟨rfl, below_box _ _⟩
set_option maxRecDepth 100000 in
set_option maxHeartbeats 4000000 in
theorem implMt (u h b s n : Int) (w : World) :
    Calls Try.prog 16 #[.agg #[.int .i64 u, .int .i64 h, .int .i64 b], .int .i64 s, .int .i64 n] w (BPost (may ⟨u, h, b⟩ s n) w) := by
  obtain ⟨v, hv⟩ : ∃ v, isr ⟨u, h, b⟩ n = v := ⟨_, rfl⟩
  have HV := Lib.hid hv
  have HM := Lib.hid (show may ⟨u, h, b⟩ s n = (!v || decide (h = s)) by unfold may; rw [hv])
  clear hv
  go_enter Try.func16, Try.ntmps16
  go_wp2_with fail
  obtain ⟨w0, hW⟩ : ∃ w0, w.alloc (.cells #[.int .i64 u, .int .i64 h, .int .i64 b] 25) = w0 := ⟨_, rfl⟩
  rw [hW]
  have B0 := Lib.hid (show Below w.heap.size w w0 by rw [← hW]; exact (Below.refl _ _).alloc (by simp <;> omega) _)
  have X0 := Lib.hid (show Bx 25 w0 (w.heap.size) #[.int .i64 u, .int .i64 h, .int .i64 b] by
      rw [← hW]
      have hh := Bx.made 25 w #[.int .i64 u, .int .i64 h, .int .i64 b]
      exact hh)
  clear hW
  have cX0 : w0.cell? ⟨w.heap.size, 0, none⟩ = some (.int .i64 u) := X0.out.cell 0
  have cX1 : w0.cell? ⟨w.heap.size, 1, none⟩ = some (.int .i64 h) := X0.out.cell 1
  have cX2 : w0.cell? ⟨w.heap.size, 2, none⟩ = some (.int .i64 b) := X0.out.cell 2
  go_wp2_with fail
  clear cX0 cX1 cX2
  (with_reducible refine (implIr u h b n _).mono ?_)
  rintro e w1 hp
  obtain ⟨rfl, hb⟩ := b_parts HV.out hp
  clear hp
  have B1 := Lib.hid (B0.out.trans (hb.mono B0.out.size))
  have X1 := Lib.hid (X0.out.below hb)
  clear hb  B0 X0
  have cX0 : w1.cell? ⟨w.heap.size, 0, none⟩ = some (.int .i64 u) := X1.out.cell 0
  have cX1 : w1.cell? ⟨w.heap.size, 1, none⟩ = some (.int .i64 h) := X1.out.cell 1
  have cX2 : w1.cell? ⟨w.heap.size, 2, none⟩ = some (.int .i64 b) := X1.out.cell 2
  cases v with
  | true =>
    by_cases he : h = s
    · have e1 : (h == s) = true := by simp [he]
      have e2 : (s == h) = true := by simp [he]
      go_wp2_with fail
      go_ret
      rw [HM.out]
      exact ⟨by rw [decide_eq_true he]; rfl, B1.out⟩
    · have e1 : (h == s) = false := by simp [he]
      have e2 : (s == h) = false := by simp; exact fun e => he e.symm
      go_wp2_with fail
      go_ret
      rw [HM.out]
      exact ⟨by rw [decide_eq_false he]; rfl, B1.out⟩
  | false =>
    go_wp2_with fail
    go_ret
    rw [HM.out]
    exact ⟨rfl, B1.out⟩
set_option maxRecDepth 100000 in
set_option maxHeartbeats 4000000 in
theorem specMt (u h b s n : Int) (w : World) :
    Calls Try.prog 34 #[.agg #[.int .i64 u, .int .i64 h, .int .i64 b], .int .i64 s, .int .i64 n] w (BPost (may ⟨u, h, b⟩ s n) w) := by
  obtain ⟨v, hv⟩ : ∃ v, isr ⟨u, h, b⟩ n = v := ⟨_, rfl⟩
  have HV := Lib.hid hv
  have HM := Lib.hid (show may ⟨u, h, b⟩ s n = (!v || decide (h = s)) by unfold may; rw [hv])
  clear hv
  go_enter Try.func34, Try.ntmps34
  go_wp2_with fail
  obtain ⟨w0, hW⟩ : ∃ w0, w.alloc (.cells #[.int .i64 u, .int .i64 h, .int .i64 b] 25) = w0 := ⟨_, rfl⟩
  rw [hW]
  have B0 := Lib.hid (show Below w.heap.size w w0 by rw [← hW]; exact (Below.refl _ _).alloc (by simp <;> omega) _)
  have X0 := Lib.hid (show Bx 25 w0 (w.heap.size) #[.int .i64 u, .int .i64 h, .int .i64 b] by
      rw [← hW]
      have hh := Bx.made 25 w #[.int .i64 u, .int .i64 h, .int .i64 b]
      exact hh)
  clear hW
  have cX0 : w0.cell? ⟨w.heap.size, 0, none⟩ = some (.int .i64 u) := X0.out.cell 0
  have cX1 : w0.cell? ⟨w.heap.size, 1, none⟩ = some (.int .i64 h) := X0.out.cell 1
  have cX2 : w0.cell? ⟨w.heap.size, 2, none⟩ = some (.int .i64 b) := X0.out.cell 2
  go_wp2_with fail
  clear cX0 cX1 cX2
  (with_reducible refine (specIr u h b n _).mono ?_)
  rintro e w1 hp
  obtain ⟨rfl, hb⟩ := b_parts HV.out hp
  clear hp
  have B1 := Lib.hid (B0.out.trans (hb.mono B0.out.size))
  have X1 := Lib.hid (X0.out.below hb)
  clear hb  B0 X0
  have cX0 : w1.cell? ⟨w.heap.size, 0, none⟩ = some (.int .i64 u) := X1.out.cell 0
  have cX1 : w1.cell? ⟨w.heap.size, 1, none⟩ = some (.int .i64 h) := X1.out.cell 1
  have cX2 : w1.cell? ⟨w.heap.size, 2, none⟩ = some (.int .i64 b) := X1.out.cell 2
  cases v with
  | true =>
    by_cases he : h = s
    · have e1 : (h == s) = true := by simp [he]
      have e2 : (s == h) = true := by simp [he]
      go_wp2_with fail
      go_ret
      rw [HM.out]
      exact ⟨by rw [decide_eq_true he]; rfl, B1.out⟩
    · have e1 : (h == s) = false := by simp [he]
      have e2 : (s == h) = false := by simp; exact fun e => he e.symm
      go_wp2_with fail
      go_ret
      rw [HM.out]
      exact ⟨by rw [decide_eq_false he]; rfl, B1.out⟩
  | false =>
    go_wp2_with fail
    go_ret
    rw [HM.out]
    exact ⟨rfl, B1.out⟩
set_option maxRecDepth 100000 in
set_option maxHeartbeats 4000000 in
theorem implRu (u h b n : Int) (y : Bool) (w : World) :
    Calls Try.prog 20 #[.agg #[.int .i64 u, .int .i64 h, .int .i64 b], .int .i64 n, .bool y] w (RPost (rel ⟨u, h, b⟩ n y) w) := by
  obtain ⟨v, hv⟩ : ∃ v, isr ⟨u, h, b⟩ n = v := ⟨_, rfl⟩
  have HV := Lib.hid hv
  clear hv
  go_enter Try.func20, Try.ntmps20
  go_wp2_with fail
  obtain ⟨w0, hW⟩ : ∃ w0, (w.alloc (.cells #[.int .i64 u, .int .i64 h, .int .i64 b] 25)).alloc (.cells #[.int .i64 0, .int .i64 0, .int .i64 0] 25) = w0 := ⟨_, rfl⟩
  rw [hW]
  have B0 := Lib.hid (show Below w.heap.size w w0 by rw [← hW]; exact ((Below.refl _ _).alloc (by simp <;> omega) _).alloc (by simp <;> omega) _)
  have X0 := Lib.hid (show Bx 25 w0 (w.heap.size) #[.int .i64 u, .int .i64 h, .int .i64 b] by
      rw [← hW]
      have hh := Bx.made 25 w #[.int .i64 u, .int .i64 h, .int .i64 b]
      exact (hh.below (below_box _ _)))
  have Z0 := Lib.hid (show Bx 25 w0 (w.heap.size + 1) #[.int .i64 0, .int .i64 0, .int .i64 0] by
      rw [← hW]
      have hh : Bx 25 ((w.alloc (.cells #[.int .i64 u, .int .i64 h, .int .i64 b] 25)).alloc (.cells #[.int .i64 0, .int .i64 0, .int .i64 0] 25)) (w.heap.size + 1) #[.int .i64 0, .int .i64 0, .int .i64 0] := by have hh := Bx.made 25 (w.alloc (.cells #[.int .i64 u, .int .i64 h, .int .i64 b] 25)) #[.int .i64 0, .int .i64 0, .int .i64 0]; simpa using hh
      exact hh)
  clear hW
  go_wp2_with fail
  (with_reducible refine (implIr u h b n _).mono ?_)
  rintro e w1 hp
  obtain ⟨rfl, hb⟩ := b_parts HV.out hp
  clear hp
  have B1 := Lib.hid (B0.out.trans (hb.mono B0.out.size))
  have X1 := Lib.hid (X0.out.below hb)
  have Z1 := Lib.hid (Z0.out.below hb)
  clear hb  B0 X0 Z0
  cases v with
  | true =>
    cases y with
    | true =>
      have HE := Lib.hid (show rel ⟨u, h, b⟩ n true = ⟨u, h, b⟩ by unfold rel; rw [HV.out]; rfl)
      go_wp2_with (first | (refine stw.list_load rfl 25 _ rfl (w.heap.size) rfl 25 _ X1.out Try.underlying25 rfl szR ?_) | (refine stw.list_store rfl 25 _ _ rfl (w.heap.size + 1) #[.int .i64 u, .int .i64 h, .int .i64 b] rfl rfl 25 _ Z1.out rfl szR (oneR _ _ _) ?_; intro wz2 hz))
      have B2 := Lib.hid (hz.on B1.out (by first | omega | (simp <;> omega)))
      have X2 := Lib.hid (hz.keep X1.out (by first | omega | (simp <;> omega)))
      have Z2 := Lib.hid (hz.box)
      clear hz B1 X1 Z1
      (try simp only [Exit.inBlock, Exit.then])
      refine bodyPost_ret (v := .agg #[.int .i64 u, .int .i64 h, .int .i64 b]) ?_ rfl ?_
      · rw [results_cell1 rfl]
        exact stw.back Z2.out Try.underlying25 rfl szR
      · exact ⟨by rw [HE.out], B2.out⟩
    | false =>
      have HE := Lib.hid (show rel ⟨u, h, b⟩ n false = ⟨0, 0, 0⟩ by unfold rel; rw [HV.out]; rfl)
      go_wp2_with (first | (refine stw.list_store rfl 25 _ _ rfl (w.heap.size + 1) #[.int .i64 0, .int .i64 0, .int .i64 0] rfl rfl 25 _ Z1.out rfl szR (oneR _ _ _) ?_; intro wz2 hz))
      have B2 := Lib.hid (hz.on B1.out (by first | omega | (simp <;> omega)))
      have X2 := Lib.hid (hz.keep X1.out (by first | omega | (simp <;> omega)))
      have Z2 := Lib.hid (hz.box)
      clear hz B1 X1 Z1
      (try simp only [Exit.inBlock, Exit.then])
      refine bodyPost_ret (v := .agg #[.int .i64 0, .int .i64 0, .int .i64 0]) ?_ rfl ?_
      · rw [results_cell1 rfl]
        exact stw.back Z2.out Try.underlying25 rfl szR
      · exact ⟨by rw [HE.out], B2.out⟩
  | false =>
    have HE := Lib.hid (show rel ⟨u, h, b⟩ n y = ⟨u, h, b⟩ by unfold rel; rw [HV.out]; rfl)
    go_wp2_with (first | (refine stw.list_load rfl 25 _ rfl (w.heap.size) rfl 25 _ X1.out Try.underlying25 rfl szR ?_) | (refine stw.list_store rfl 25 _ _ rfl (w.heap.size + 1) #[.int .i64 u, .int .i64 h, .int .i64 b] rfl rfl 25 _ Z1.out rfl szR (oneR _ _ _) ?_; intro wz2 hz))
    have B2 := Lib.hid (hz.on B1.out (by first | omega | (simp <;> omega)))
    have X2 := Lib.hid (hz.keep X1.out (by first | omega | (simp <;> omega)))
    have Z2 := Lib.hid (hz.box)
    clear hz B1 X1 Z1
    (try simp only [Exit.inBlock, Exit.then])
    refine bodyPost_ret (v := .agg #[.int .i64 u, .int .i64 h, .int .i64 b]) ?_ rfl ?_
    · rw [results_cell1 rfl]
      exact stw.back Z2.out Try.underlying25 rfl szR
    · exact ⟨by rw [HE.out], B2.out⟩
set_option maxRecDepth 100000 in
set_option maxHeartbeats 4000000 in
theorem specRu (u h b n : Int) (y : Bool) (w : World) :
    Calls Try.prog 33 #[.agg #[.int .i64 u, .int .i64 h, .int .i64 b], .int .i64 n, .bool y] w (RPost (rel ⟨u, h, b⟩ n y) w) := by
  obtain ⟨v, hv⟩ : ∃ v, isr ⟨u, h, b⟩ n = v := ⟨_, rfl⟩
  have HV := Lib.hid hv
  clear hv
  go_enter Try.func33, Try.ntmps33
  go_wp2_with fail
  obtain ⟨w0, hW⟩ : ∃ w0, (w.alloc (.cells #[.int .i64 u, .int .i64 h, .int .i64 b] 25)).alloc (.cells #[.int .i64 0, .int .i64 0, .int .i64 0] 25) = w0 := ⟨_, rfl⟩
  rw [hW]
  have B0 := Lib.hid (show Below w.heap.size w w0 by rw [← hW]; exact ((Below.refl _ _).alloc (by simp <;> omega) _).alloc (by simp <;> omega) _)
  have X0 := Lib.hid (show Bx 25 w0 (w.heap.size) #[.int .i64 u, .int .i64 h, .int .i64 b] by
      rw [← hW]
      have hh := Bx.made 25 w #[.int .i64 u, .int .i64 h, .int .i64 b]
      exact (hh.below (below_box _ _)))
  have Z0 := Lib.hid (show Bx 25 w0 (w.heap.size + 1) #[.int .i64 0, .int .i64 0, .int .i64 0] by
      rw [← hW]
      have hh : Bx 25 ((w.alloc (.cells #[.int .i64 u, .int .i64 h, .int .i64 b] 25)).alloc (.cells #[.int .i64 0, .int .i64 0, .int .i64 0] 25)) (w.heap.size + 1) #[.int .i64 0, .int .i64 0, .int .i64 0] := by have hh := Bx.made 25 (w.alloc (.cells #[.int .i64 u, .int .i64 h, .int .i64 b] 25)) #[.int .i64 0, .int .i64 0, .int .i64 0]; simpa using hh
      exact hh)
  clear hW
  go_wp2_with fail
  (with_reducible refine (specIr u h b n _).mono ?_)
  rintro e w1 hp
  obtain ⟨rfl, hb⟩ := b_parts HV.out hp
  clear hp
  have B1 := Lib.hid (B0.out.trans (hb.mono B0.out.size))
  have X1 := Lib.hid (X0.out.below hb)
  have Z1 := Lib.hid (Z0.out.below hb)
  clear hb  B0 X0 Z0
  cases v with
  | true =>
    cases y with
    | true =>
      have HE := Lib.hid (show rel ⟨u, h, b⟩ n true = ⟨u, h, b⟩ by unfold rel; rw [HV.out]; rfl)
      go_wp2_with (first | (refine stw.list_load rfl 25 _ rfl (w.heap.size) rfl 25 _ X1.out Try.underlying25 rfl szR ?_) | (refine stw.list_store rfl 25 _ _ rfl (w.heap.size + 1) #[.int .i64 u, .int .i64 h, .int .i64 b] rfl rfl 25 _ Z1.out rfl szR (oneR _ _ _) ?_; intro wz2 hz))
      have B2 := Lib.hid (hz.on B1.out (by first | omega | (simp <;> omega)))
      have X2 := Lib.hid (hz.keep X1.out (by first | omega | (simp <;> omega)))
      have Z2 := Lib.hid (hz.box)
      clear hz B1 X1 Z1
      (try simp only [Exit.inBlock, Exit.then])
      refine bodyPost_ret (v := .agg #[.int .i64 u, .int .i64 h, .int .i64 b]) ?_ rfl ?_
      · rw [results_cell1 rfl]
        exact stw.back Z2.out Try.underlying25 rfl szR
      · exact ⟨by rw [HE.out], B2.out⟩
    | false =>
      have HE := Lib.hid (show rel ⟨u, h, b⟩ n false = ⟨0, 0, 0⟩ by unfold rel; rw [HV.out]; rfl)
      go_wp2_with (first | (refine stw.list_store rfl 25 _ _ rfl (w.heap.size + 1) #[.int .i64 0, .int .i64 0, .int .i64 0] rfl rfl 25 _ Z1.out rfl szR (oneR _ _ _) ?_; intro wz2 hz))
      have B2 := Lib.hid (hz.on B1.out (by first | omega | (simp <;> omega)))
      have X2 := Lib.hid (hz.keep X1.out (by first | omega | (simp <;> omega)))
      have Z2 := Lib.hid (hz.box)
      clear hz B1 X1 Z1
      (try simp only [Exit.inBlock, Exit.then])
      refine bodyPost_ret (v := .agg #[.int .i64 0, .int .i64 0, .int .i64 0]) ?_ rfl ?_
      · rw [results_cell1 rfl]
        exact stw.back Z2.out Try.underlying25 rfl szR
      · exact ⟨by rw [HE.out], B2.out⟩
  | false =>
    have HE := Lib.hid (show rel ⟨u, h, b⟩ n y = ⟨u, h, b⟩ by unfold rel; rw [HV.out]; rfl)
    go_wp2_with (first | (refine stw.list_load rfl 25 _ rfl (w.heap.size) rfl 25 _ X1.out Try.underlying25 rfl szR ?_) | (refine stw.list_store rfl 25 _ _ rfl (w.heap.size + 1) #[.int .i64 u, .int .i64 h, .int .i64 b] rfl rfl 25 _ Z1.out rfl szR (oneR _ _ _) ?_; intro wz2 hz))
    have B2 := Lib.hid (hz.on B1.out (by first | omega | (simp <;> omega)))
    have X2 := Lib.hid (hz.keep X1.out (by first | omega | (simp <;> omega)))
    have Z2 := Lib.hid (hz.box)
    clear hz B1 X1 Z1
    (try simp only [Exit.inBlock, Exit.then])
    refine bodyPost_ret (v := .agg #[.int .i64 u, .int .i64 h, .int .i64 b]) ?_ rfl ?_
    · rw [results_cell1 rfl]
      exact stw.back Z2.out Try.underlying25 rfl szR
    · exact ⟨by rw [HE.out], B2.out⟩
set_option maxRecDepth 100000 in
set_option maxHeartbeats 4000000 in
theorem endOf (u h b : Int) (w : World) :
    Calls Try.prog 49 #[.agg #[.int .i64 u, .int .i64 h, .int .i64 b]] w (NPost u w) := by
  go_enter Try.func49, Try.ntmps49
  go_wp2
  go_ret
  exact ⟨rfl, below_box _ _⟩
set_option maxRecDepth 100000 in
set_option maxHeartbeats 4000000 in
theorem withGr (u h b i j l : Int) (w : World) :
    Calls Try.prog 48 #[.agg #[.int .i64 u, .int .i64 h, .int .i64 b], .agg #[.int .i64 i, .int .i64 j, .int .i64 l], .func (.func 49) #[] #[]] w (RPost (com ⟨u, h, b⟩ ⟨i, j, l⟩) w) := by
  go_enter Try.func48, Try.ntmps48
  go_wp2_with fail
  obtain ⟨w0, hW⟩ : ∃ w0, ((w.alloc (.cells #[.int .i64 u, .int .i64 h, .int .i64 b] 25)).alloc (.cells #[.int .i64 i, .int .i64 j, .int .i64 l] 25)).alloc (.cells #[.int .i64 0, .int .i64 0, .int .i64 0] 25) = w0 := ⟨_, rfl⟩
  rw [hW]
  have B0 := Lib.hid (show Below w.heap.size w w0 by rw [← hW]; exact (((Below.refl _ _).alloc (by simp <;> omega) _).alloc (by simp <;> omega) _).alloc (by simp <;> omega) _)
  have X0 := Lib.hid (show Bx 25 w0 (w.heap.size) #[.int .i64 u, .int .i64 h, .int .i64 b] by
      rw [← hW]
      have hh := Bx.made 25 w #[.int .i64 u, .int .i64 h, .int .i64 b]
      exact ((hh.below (below_box _ _)).below (below_box _ _)))
  have Y0 := Lib.hid (show Bx 25 w0 (w.heap.size + 1) #[.int .i64 i, .int .i64 j, .int .i64 l] by
      rw [← hW]
      have hh : Bx 25 ((w.alloc (.cells #[.int .i64 u, .int .i64 h, .int .i64 b] 25)).alloc (.cells #[.int .i64 i, .int .i64 j, .int .i64 l] 25)) (w.heap.size + 1) #[.int .i64 i, .int .i64 j, .int .i64 l] := by have hh := Bx.made 25 (w.alloc (.cells #[.int .i64 u, .int .i64 h, .int .i64 b] 25)) #[.int .i64 i, .int .i64 j, .int .i64 l]; simpa using hh
      exact (hh.below (below_box _ _)))
  have Z0 := Lib.hid (show Bx 25 w0 (w.heap.size + 1 + 1) #[.int .i64 0, .int .i64 0, .int .i64 0] by
      rw [← hW]
      have hh : Bx 25 (((w.alloc (.cells #[.int .i64 u, .int .i64 h, .int .i64 b] 25)).alloc (.cells #[.int .i64 i, .int .i64 j, .int .i64 l] 25)).alloc (.cells #[.int .i64 0, .int .i64 0, .int .i64 0] 25)) (w.heap.size + 1 + 1) #[.int .i64 0, .int .i64 0, .int .i64 0] := by have hh := Bx.made 25 ((w.alloc (.cells #[.int .i64 u, .int .i64 h, .int .i64 b] 25)).alloc (.cells #[.int .i64 i, .int .i64 j, .int .i64 l] 25)) #[.int .i64 0, .int .i64 0, .int .i64 0]; simpa using hh
      exact hh)
  clear hW
  refine reg.region_plain reg.Bel 16 [some [], some [], some [(0, 7), (1, 8)], some [], some [], some [(3, 10), (4, 11)], some [(2, 9), (5, 12)]] [(0, 7), (1, 8), (2, 9), (3, 10), (4, 11), (5, 12), (6, 13)]
    (fun w' => Below w.heap.size w w' ∧ Bx 25 w' (w.heap.size) #[.int .i64 u, .int .i64 h, .int .i64 b] ∧ Bx 25 w' (w.heap.size + 1) #[.int .i64 i, .int .i64 j, .int .i64 l] ∧ Bx 25 w' (w.heap.size + 1 + 1) #[.int .i64 0, .int .i64 0, .int .i64 0] ∧ True)
    (reg.rl [reg.is (.func (.func 49) #[] #[]), reg.is (.agg #[.int .i64 i, .int .i64 j, .int .i64 l]), reg.is (.int .i64 i), reg.is (.func (.func 49) #[] #[]), reg.is (.agg #[.int .i64 u, .int .i64 h, .int .i64 b]), reg.is (.int .i64 u), reg.is (.bool (decide (u < i)))])
    (by kernel_rfl) (by kernel_rfl) rfl
    (fun w1 w2 hc hb => ⟨hc.1.trans (hb.mono hc.1.size), hc.2.1.below hb, hc.2.2.1.below hb, hc.2.2.2.1.below hb, trivial⟩) (reg.rl_keep _) (⟨own.below_drew B0.out, X0.out.same rfl, Y0.out.same rfl, Z0.out.same rfl, trivial⟩) (by kernel_rfl) ⟨?_, ?_, ?_, ?_, ?_, ?_, ?_, trivial⟩ ?_
  · refine fun w8 hc  K hK => ?_
    (try simp only [Act.put, List.setIfInBounds_toArray, List.set_cons_zero, List.set_cons_succ])
    go_simp
    exact hK (.func (.func 49) #[] #[]) _ rfl (Below.refl _ _)
  · refine fun w8 hc  K hK => ?_
    (try simp only [Act.put, List.setIfInBounds_toArray, List.set_cons_zero, List.set_cons_succ])
    rw [if_pos (by rfl)]
    refine stw.wp_load_bx 25 _ rfl (w.heap.size + 1) rfl 25 _ hc.2.2.1 Try.underlying25 rfl szR ?_
    exact hK _ _ rfl (Below.refl _ _)
  · refine fun w8 hc v0 h0 v1 h1 K hK => ?_
    obtain rfl : v0 = .func (.func 49) #[] #[] := h0
    obtain rfl : v1 = .agg #[.int .i64 i, .int .i64 j, .int .i64 l] := h1
    (try simp only [Act.put, List.setIfInBounds_toArray, List.set_cons_zero, List.set_cons_succ])
    go_simp
    (with_reducible refine (endOf i j l _).mono ?_)
    rintro e w3 hp
    obtain ⟨rfl, hb⟩ := n_parts rfl hp
    exact hK _ _ rfl hb
  · refine fun w8 hc  K hK => ?_
    (try simp only [Act.put, List.setIfInBounds_toArray, List.set_cons_zero, List.set_cons_succ])
    go_simp
    exact hK (.func (.func 49) #[] #[]) _ rfl (Below.refl _ _)
  · refine fun w8 hc  K hK => ?_
    (try simp only [Act.put, List.setIfInBounds_toArray, List.set_cons_zero, List.set_cons_succ])
    rw [if_pos (by rfl)]
    refine stw.wp_load_bx 25 _ rfl (w.heap.size) rfl 25 _ hc.2.1 Try.underlying25 rfl szR ?_
    exact hK _ _ rfl (Below.refl _ _)
  · refine fun w8 hc v3 h3 v4 h4 K hK => ?_
    obtain rfl : v3 = .func (.func 49) #[] #[] := h3
    obtain rfl : v4 = .agg #[.int .i64 u, .int .i64 h, .int .i64 b] := h4
    (try simp only [Act.put, List.setIfInBounds_toArray, List.set_cons_zero, List.set_cons_succ])
    go_simp
    (with_reducible refine (endOf u h b _).mono ?_)
    rintro e w3 hp
    obtain ⟨rfl, hb⟩ := n_parts rfl hp
    exact hK _ _ rfl hb
  · refine fun w8 hc v2 h2 v5 h5 K hK => ?_
    obtain rfl : v2 = .int .i64 i := h2
    obtain rfl : v5 = .int .i64 u := h5
    (try simp only [Act.put, List.setIfInBounds_toArray, List.set_cons_zero, List.set_cons_succ])
    go_simp
    exact hK (.bool (decide (u < i))) _ rfl (Below.refl _ _)
  refine fun w9 hc v0 h0 v1 h1 v2 h2 v3 h3 v4 h4 v5 h5 v6 h6 => ?_
  obtain rfl : v0 = .func (.func 49) #[] #[] := h0
  obtain rfl : v1 = .agg #[.int .i64 i, .int .i64 j, .int .i64 l] := h1
  obtain rfl : v2 = .int .i64 i := h2
  obtain rfl : v3 = .func (.func 49) #[] #[] := h3
  obtain rfl : v4 = .agg #[.int .i64 u, .int .i64 h, .int .i64 b] := h4
  obtain rfl : v5 = .int .i64 u := h5
  obtain rfl : v6 = .bool (decide (u < i)) := h6
  (try simp only [reg.Obs])
  (try simp only [Act.put, List.setIfInBounds_toArray, List.set_cons_zero, List.set_cons_succ])
  have B1 := Lib.hid hc.1
  have X1 := Lib.hid hc.2.1
  have Y1 := Lib.hid hc.2.2.1
  have Z1 := Lib.hid hc.2.2.2.1
  clear hc B0 X0 Y0 Z0
  by_cases hlt : u < i
  · have HE := Lib.hid (show com ⟨u, h, b⟩ ⟨i, j, l⟩ = ⟨i, j, l⟩ by unfold com; rw [if_pos hlt])
    have hd : decide (u < i) = true := decide_eq_true hlt
    go_wp2_with (first | (refine stw.list_load rfl 25 _ rfl (w.heap.size + 1) rfl 25 _ Y1.out Try.underlying25 rfl szR ?_) | (refine stw.list_store rfl 25 _ _ rfl (w.heap.size + 1 + 1) #[.int .i64 i, .int .i64 j, .int .i64 l] rfl rfl 25 _ Z1.out rfl szR (oneR _ _ _) ?_; intro wz2 hz))
    have B2 := Lib.hid (hz.on B1.out (by first | omega | (simp <;> omega)))
    have X2 := Lib.hid (hz.keep X1.out (by first | omega | (simp <;> omega)))
    have Y2 := Lib.hid (hz.keep Y1.out (by first | omega | (simp <;> omega)))
    have Z2 := Lib.hid (hz.box)
    clear hz B1 X1 Y1 Z1
    (try simp only [Exit.inBlock, Exit.then])
    refine bodyPost_ret (v := .agg #[.int .i64 i, .int .i64 j, .int .i64 l]) ?_ rfl ?_
    · rw [results_cell1 rfl]
      exact stw.back Z2.out Try.underlying25 rfl szR
    · exact ⟨by rw [HE.out], B2.out⟩
  · have HE := Lib.hid (show com ⟨u, h, b⟩ ⟨i, j, l⟩ = ⟨u, h, b⟩ by unfold com; rw [if_neg hlt])
    have hd : decide (u < i) = false := decide_eq_false hlt
    go_wp2_with (first | (refine stw.list_load rfl 25 _ rfl (w.heap.size) rfl 25 _ X1.out Try.underlying25 rfl szR ?_) | (refine stw.list_store rfl 25 _ _ rfl (w.heap.size + 1 + 1) #[.int .i64 u, .int .i64 h, .int .i64 b] rfl rfl 25 _ Z1.out rfl szR (oneR _ _ _) ?_; intro wz2 hz))
    have B2 := Lib.hid (hz.on B1.out (by first | omega | (simp <;> omega)))
    have X2 := Lib.hid (hz.keep X1.out (by first | omega | (simp <;> omega)))
    have Y2 := Lib.hid (hz.keep Y1.out (by first | omega | (simp <;> omega)))
    have Z2 := Lib.hid (hz.box)
    clear hz B1 X1 Y1 Z1
    (try simp only [Exit.inBlock, Exit.then])
    refine bodyPost_ret (v := .agg #[.int .i64 u, .int .i64 h, .int .i64 b]) ?_ rfl ?_
    · rw [results_cell1 rfl]
      exact stw.back Z2.out Try.underlying25 rfl szR
    · exact ⟨by rw [HE.out], B2.out⟩
set_option maxRecDepth 100000 in
set_option maxHeartbeats 4000000 in
theorem implCo (u h b i j l : Int) (w : World) :
    Calls Try.prog 22 #[.agg #[.int .i64 u, .int .i64 h, .int .i64 b], .agg #[.int .i64 i, .int .i64 j, .int .i64 l]] w (RPost (com ⟨u, h, b⟩ ⟨i, j, l⟩) w) := by
  obtain ⟨⟨x0, x1, x2⟩, hx⟩ : ∃ x, com ⟨u, h, b⟩ ⟨i, j, l⟩ = x := ⟨_, rfl⟩
  have HX := Lib.hid hx
  rw [hx]
  clear hx
  go_enter Try.func22, Try.ntmps22
  go_wp2_with fail
  obtain ⟨w0, hW⟩ : ∃ w0, ((w.alloc (.cells #[.int .i64 u, .int .i64 h, .int .i64 b] 25)).alloc (.cells #[.int .i64 i, .int .i64 j, .int .i64 l] 25)).alloc (.cells #[.int .i64 0, .int .i64 0, .int .i64 0] 25) = w0 := ⟨_, rfl⟩
  rw [hW]
  have B0 := Lib.hid (show Below w.heap.size w w0 by rw [← hW]; exact (((Below.refl _ _).alloc (by simp <;> omega) _).alloc (by simp <;> omega) _).alloc (by simp <;> omega) _)
  have X0 := Lib.hid (show Bx 25 w0 (w.heap.size) #[.int .i64 u, .int .i64 h, .int .i64 b] by
      rw [← hW]
      have hh := Bx.made 25 w #[.int .i64 u, .int .i64 h, .int .i64 b]
      exact ((hh.below (below_box _ _)).below (below_box _ _)))
  have Y0 := Lib.hid (show Bx 25 w0 (w.heap.size + 1) #[.int .i64 i, .int .i64 j, .int .i64 l] by
      rw [← hW]
      have hh : Bx 25 ((w.alloc (.cells #[.int .i64 u, .int .i64 h, .int .i64 b] 25)).alloc (.cells #[.int .i64 i, .int .i64 j, .int .i64 l] 25)) (w.heap.size + 1) #[.int .i64 i, .int .i64 j, .int .i64 l] := by have hh := Bx.made 25 (w.alloc (.cells #[.int .i64 u, .int .i64 h, .int .i64 b] 25)) #[.int .i64 i, .int .i64 j, .int .i64 l]; simpa using hh
      exact (hh.below (below_box _ _)))
  have Z0 := Lib.hid (show Bx 25 w0 (w.heap.size + 1 + 1) #[.int .i64 0, .int .i64 0, .int .i64 0] by
      rw [← hW]
      have hh : Bx 25 (((w.alloc (.cells #[.int .i64 u, .int .i64 h, .int .i64 b] 25)).alloc (.cells #[.int .i64 i, .int .i64 j, .int .i64 l] 25)).alloc (.cells #[.int .i64 0, .int .i64 0, .int .i64 0] 25)) (w.heap.size + 1 + 1) #[.int .i64 0, .int .i64 0, .int .i64 0] := by have hh := Bx.made 25 ((w.alloc (.cells #[.int .i64 u, .int .i64 h, .int .i64 b] 25)).alloc (.cells #[.int .i64 i, .int .i64 j, .int .i64 l] 25)) #[.int .i64 0, .int .i64 0, .int .i64 0]; simpa using hh
      exact hh)
  clear hW
  go_wp2_with (first | (refine stw.list_load rfl 25 _ rfl (w.heap.size) rfl 25 _ X0.out Try.underlying25 rfl szR ?_) | (refine stw.list_load rfl 25 _ rfl (w.heap.size + 1) rfl 25 _ Y0.out Try.underlying25 rfl szR ?_))
  (with_reducible refine (withGr u h b i j l _).mono ?_)
  rintro e w1 hp
  obtain ⟨rfl, hb⟩ := r_parts HX.out hp
  clear hp
  have B1 := Lib.hid (B0.out.trans (hb.mono B0.out.size))
  have X1 := Lib.hid (X0.out.below hb)
  have Y1 := Lib.hid (Y0.out.below hb)
  have Z1 := Lib.hid (Z0.out.below hb)
  clear hb  B0 X0 Y0 Z0
  go_wp2_with (first | (refine stw.list_store rfl 25 _ _ rfl (w.heap.size + 1 + 1) #[.int .i64 x0, .int .i64 x1, .int .i64 x2] rfl rfl 25 _ Z1.out rfl szR (oneR _ _ _) ?_; intro wz2 hz))
  have B2 := Lib.hid (hz.on B1.out (by first | omega | (simp <;> omega)))
  have X2 := Lib.hid (hz.keep X1.out (by first | omega | (simp <;> omega)))
  have Y2 := Lib.hid (hz.keep Y1.out (by first | omega | (simp <;> omega)))
  have Z2 := Lib.hid (hz.box)
  clear hz B1 X1 Y1 Z1
  (try simp only [Exit.inBlock, Exit.then])
  refine bodyPost_ret (v := .agg #[.int .i64 x0, .int .i64 x1, .int .i64 x2]) ?_ rfl ?_
  · rw [results_cell1 rfl]
    exact stw.back Z2.out Try.underlying25 rfl szR
  · exact ⟨rfl, B2.out⟩
set_option maxRecDepth 100000 in
set_option maxHeartbeats 4000000 in
theorem specCo (u h b i j l : Int) (w : World) :
    Calls Try.prog 37 #[.agg #[.int .i64 u, .int .i64 h, .int .i64 b], .agg #[.int .i64 i, .int .i64 j, .int .i64 l]] w (RPost (com ⟨u, h, b⟩ ⟨i, j, l⟩) w) := by
  go_enter Try.func37, Try.ntmps37
  go_upto_region 1 with fail
  obtain ⟨w0, hW⟩ : ∃ w0, ((w.alloc (.cells #[.int .i64 u, .int .i64 h, .int .i64 b] 25)).alloc (.cells #[.int .i64 i, .int .i64 j, .int .i64 l] 25)).alloc (.cells #[.int .i64 0, .int .i64 0, .int .i64 0] 25) = w0 := ⟨_, rfl⟩
  rw [hW]
  have B0 := Lib.hid (show Below w.heap.size w w0 by rw [← hW]; exact (((Below.refl _ _).alloc (by simp <;> omega) _).alloc (by simp <;> omega) _).alloc (by simp <;> omega) _)
  have X0 := Lib.hid (show Bx 25 w0 (w.heap.size) #[.int .i64 u, .int .i64 h, .int .i64 b] by
      rw [← hW]
      have hh := Bx.made 25 w #[.int .i64 u, .int .i64 h, .int .i64 b]
      exact ((hh.below (below_box _ _)).below (below_box _ _)))
  have Y0 := Lib.hid (show Bx 25 w0 (w.heap.size + 1) #[.int .i64 i, .int .i64 j, .int .i64 l] by
      rw [← hW]
      have hh : Bx 25 ((w.alloc (.cells #[.int .i64 u, .int .i64 h, .int .i64 b] 25)).alloc (.cells #[.int .i64 i, .int .i64 j, .int .i64 l] 25)) (w.heap.size + 1) #[.int .i64 i, .int .i64 j, .int .i64 l] := by have hh := Bx.made 25 (w.alloc (.cells #[.int .i64 u, .int .i64 h, .int .i64 b] 25)) #[.int .i64 i, .int .i64 j, .int .i64 l]; simpa using hh
      exact (hh.below (below_box _ _)))
  have Z0 := Lib.hid (show Bx 25 w0 (w.heap.size + 1 + 1) #[.int .i64 0, .int .i64 0, .int .i64 0] by
      rw [← hW]
      have hh : Bx 25 (((w.alloc (.cells #[.int .i64 u, .int .i64 h, .int .i64 b] 25)).alloc (.cells #[.int .i64 i, .int .i64 j, .int .i64 l] 25)).alloc (.cells #[.int .i64 0, .int .i64 0, .int .i64 0] 25)) (w.heap.size + 1 + 1) #[.int .i64 0, .int .i64 0, .int .i64 0] := by have hh := Bx.made 25 ((w.alloc (.cells #[.int .i64 u, .int .i64 h, .int .i64 b] 25)).alloc (.cells #[.int .i64 i, .int .i64 j, .int .i64 l] 25)) #[.int .i64 0, .int .i64 0, .int .i64 0]; simpa using hh
      exact hh)
  clear hW
  have cX0 : w0.cell? ⟨w.heap.size, 0, none⟩ = some (.int .i64 u) := X0.out.cell 0
  have cY0 : w0.cell? ⟨w.heap.size + 1, 0, none⟩ = some (.int .i64 i) := Y0.out.cell 0
  by_cases hlt : u < i
  · have HE := Lib.hid (show com ⟨u, h, b⟩ ⟨i, j, l⟩ = ⟨i, j, l⟩ by unfold com; rw [if_pos hlt])
    go_wp2_with (first | (refine stw.list_load rfl 25 _ rfl (w.heap.size + 1) rfl 25 _ Y0.out Try.underlying25 rfl szR ?_) | (refine stw.list_store rfl 25 _ _ rfl (w.heap.size + 1 + 1) #[.int .i64 i, .int .i64 j, .int .i64 l] rfl rfl 25 _ Z0.out rfl szR (oneR _ _ _) ?_; intro wz1 hz))
    clear cX0 cY0
    have B1 := Lib.hid (hz.on B0.out (by first | omega | (simp <;> omega)))
    have X1 := Lib.hid (hz.keep X0.out (by first | omega | (simp <;> omega)))
    have Y1 := Lib.hid (hz.keep Y0.out (by first | omega | (simp <;> omega)))
    have Z1 := Lib.hid (hz.box)
    clear hz B0 X0 Y0 Z0
    (try simp only [Exit.inBlock, Exit.then])
    refine bodyPost_ret (v := .agg #[.int .i64 i, .int .i64 j, .int .i64 l]) ?_ rfl ?_
    · rw [results_cell1 rfl]
      exact stw.back Z1.out Try.underlying25 rfl szR
    · exact ⟨by rw [HE.out], B1.out⟩
  · have HE := Lib.hid (show com ⟨u, h, b⟩ ⟨i, j, l⟩ = ⟨u, h, b⟩ by unfold com; rw [if_neg hlt])
    go_wp2_with (first | (refine stw.list_load rfl 25 _ rfl (w.heap.size) rfl 25 _ X0.out Try.underlying25 rfl szR ?_) | (refine stw.list_store rfl 25 _ _ rfl (w.heap.size + 1 + 1) #[.int .i64 u, .int .i64 h, .int .i64 b] rfl rfl 25 _ Z0.out rfl szR (oneR _ _ _) ?_; intro wz1 hz))
    clear cX0 cY0
    have B1 := Lib.hid (hz.on B0.out (by first | omega | (simp <;> omega)))
    have X1 := Lib.hid (hz.keep X0.out (by first | omega | (simp <;> omega)))
    have Y1 := Lib.hid (hz.keep Y0.out (by first | omega | (simp <;> omega)))
    have Z1 := Lib.hid (hz.box)
    clear hz B0 X0 Y0 Z0
    (try simp only [Exit.inBlock, Exit.then])
    refine bodyPost_ret (v := .agg #[.int .i64 u, .int .i64 h, .int .i64 b]) ?_ rfl ?_
    · rw [results_cell1 rfl]
      exact stw.back Z1.out Try.underlying25 rfl szR
    · exact ⟨by rw [HE.out], B1.out⟩
set_option maxRecDepth 100000 in
set_option maxHeartbeats 4000000 in
theorem implRq (r n : Int) (w : World) :
    Calls Try.prog 24 #[.int .i64 r, .int .i64 n] w (NPost (rqd r n) w) := by
  obtain ⟨g, hg⟩ : ∃ g, airs.fs r n = g := ⟨_, rfl⟩
  have hr : g = 0 ∨ (1 ≤ g ∧ g ≤ 1000000000001) := by rw [← hg]; exact airs.fs_rng r n
  have HG := Lib.hid hg
  have HR := Lib.hid hr
  clear hg hr
  go_enter Try.func24, Try.ntmps24
  go_wp2_with fail
  (with_reducible refine (airs.implFs r n _).mono ?_)
  rintro e w1 hp
  obtain ⟨rfl, hb⟩ := airs.Num.parts HG.out hp
  have B1 := Lib.hid hb
  clear hp hb
  rcases HR.out with hz | hz
  · subst hz
    have HE := Lib.hid (show rqd r n = 0 by unfold rqd; rw [if_pos HG.out])
    clear HR HG
    go_wp2_with fail
    go_ret
    exact ⟨by rw [HE.out]; rfl, B1.out⟩
  · obtain ⟨p, hp⟩ : ∃ p, g + 2 = p := ⟨_, rfl⟩
    obtain ⟨m, hm⟩ : ∃ m, (if p ≤ 1000 then p else 1000) = m := ⟨_, rfl⟩
    have HE := Lib.hid (show rqd r n = m by unfold rqd; rw [HG.out, if_neg (by omega), hp, hm])
    have m1 : IntKind.i64.wrap p = p := IntWalk.i64_in _ (by omega)
    have e0 : (g == 0) = false := by simp; omega
    have HM := Lib.hid (show m = if 1000 < p then 1000 else p by rw [← hm]; split <;> split <;> omega)
    clear HG HR hz hm
    go_wp2_with fail
    (with_reducible refine (implMin p 1000 m HM.out _).mono ?_)
    rintro e w2 ⟨rfl, hb⟩
    go_wp2_with fail
    go_ret
    exact ⟨by rw [HE.out]; rfl, B1.out.trans (hb.mono B1.out.size)⟩
set_option maxRecDepth 100000 in
set_option maxHeartbeats 4000000 in
theorem specRq (r n : Int) (w : World) :
    Calls Try.prog 35 #[.int .i64 r, .int .i64 n] w (NPost (rqd r n) w) := by
  obtain ⟨g, hg⟩ : ∃ g, airs.fs r n = g := ⟨_, rfl⟩
  have hr : g = 0 ∨ (1 ≤ g ∧ g ≤ 1000000000001) := by rw [← hg]; exact airs.fs_rng r n
  have HG := Lib.hid hg
  have HR := Lib.hid hr
  clear hg hr
  go_enter Try.func35, Try.ntmps35
  go_wp2_with fail
  (with_reducible refine (airs.specFs r n _).mono ?_)
  rintro e w1 hp
  obtain ⟨rfl, hb⟩ := airs.Num.parts HG.out hp
  have B1 := Lib.hid hb
  clear hp hb
  rcases HR.out with hz | hz
  · subst hz
    have HE := Lib.hid (show rqd r n = 0 by unfold rqd; rw [if_pos HG.out])
    clear HR HG
    go_wp2_with fail
    go_ret
    exact ⟨by rw [HE.out]; rfl, B1.out⟩
  · obtain ⟨p, hp⟩ : ∃ p, g + 2 = p := ⟨_, rfl⟩
    obtain ⟨m, hm⟩ : ∃ m, (if p ≤ 1000 then p else 1000) = m := ⟨_, rfl⟩
    have HE := Lib.hid (show rqd r n = m by unfold rqd; rw [HG.out, if_neg (by omega), hp, hm])
    have m1 : IntKind.i64.wrap p = p := IntWalk.i64_in _ (by omega)
    have e0 : (g == 0) = false := by simp; omega
    have HM := Lib.hid (show m = if p < 1000 then p else 1000 by rw [← hm]; split <;> split <;> omega)
    clear HG HR hz hm
    go_wp2_with fail
    (with_reducible refine (specMin 1000 p m HM.out _).mono ?_)
    rintro e w2 ⟨rfl, rfl⟩
    go_wp2_with fail
    go_ret
    exact ⟨by rw [HE.out]; rfl, B1.out⟩
set_option maxRecDepth 100000 in
set_option maxHeartbeats 4000000 in
theorem implGr (q : Int) (hq : (Lit.int .i64 q).wf = true) (w : World) :
    Calls Try.prog 23 #[.int .i64 q] w (NPost (grd q) w) := by
  have hq1 := own.wf_in hq
  by_cases hle : q ≤ 1
  · have HE := Lib.hid (show grd q = 0 by unfold grd; rw [if_pos hle])
    clear hq hq1
    go_enter Try.func23, Try.ntmps23
    go_wp2
    go_ret
    exact ⟨by rw [HE.out]; rfl, Below.refl _ _⟩
  · obtain ⟨p, hp⟩ : ∃ p, q - 1 = p := ⟨_, rfl⟩
    have HE := Lib.hid (show grd q = p by unfold grd; rw [if_neg hle, hp])
    have m1 : IntKind.i64.wrap p = p := IntWalk.i64_in _ (by omega)
    clear hq hq1
    go_enter Try.func23, Try.ntmps23
    go_wp2
    go_ret
    exact ⟨by rw [HE.out]; rfl, Below.refl _ _⟩
set_option maxRecDepth 100000 in
set_option maxHeartbeats 4000000 in
theorem specGr (q : Int) (hq : (Lit.int .i64 q).wf = true) (w : World) :
    Calls Try.prog 36 #[.int .i64 q] w (NPost (grd q) w) := by
  have hq1 := own.wf_in hq
  obtain ⟨m, hm⟩ : ∃ m, (if 1 < q then q else 1) = m := ⟨_, rfl⟩
  obtain ⟨p, hp⟩ : ∃ p, m - 1 = p := ⟨_, rfl⟩
  have HE := Lib.hid (show grd q = p by unfold grd; rw [← hp, ← hm]; split <;> split <;> omega)
  have m1 : IntKind.i64.wrap p = p := IntWalk.i64_in _ (by have h : (if 1 < q then q else 1) = m := hm; split at h <;> omega)
  have HM := Lib.hid hm
  clear hq hq1 hm
  go_enter Try.func36, Try.ntmps36
  go_wp2_with fail
  (with_reducible refine (specMax 1 q m HM.out.symm _).mono ?_)
  rintro e wq ⟨rfl, rfl⟩
  go_wp2_with fail
  go_ret
  exact ⟨by rw [HE.out]; rfl, Below.refl _ _⟩
end Go.Proofs.Ytebbnopconbnlaa.bx
