/- Rate states: what is valid, new ones, successes, failures, the harness, program and specification. Condition: none. -/
import Derived.Test.YtejjafmppihneaaRam
import Derived.Test.YtejjafmppihneaaBox
import Derived.Test.YtejjafmppihneaaStv
import Derived.Test.YtejjafmppihneaaRc2
import Derived.Deep.Cut
namespace Go.Proofs.Ytejjafmppihneaa.ra
open Go.RowKit sl harn rng bx stw airs
set_option linter.unusedVariables false
set_option linter.unusedSimpArgs false

theorem szR : (Try.prog.info? 32).map (·.size) = some 5 := by kernel_rfl
theorem szLR : (Try.prog.info? 41).map (·.size) = some 5 := by kernel_rfl
theorem oneR (r g b t : Int) (p : Bool) : (#[.int .i64 r, .int .i64 g, .int .i64 b, .int .i64 t, .bool p] : Array Value).all (·.oneCell') = true :=
  all_oneCell_toArray (cs := [.int .i64 r, .int .i64 g, .int .i64 b, .int .i64 t, .bool p]) (by intro v hv; simp only [List.mem_cons, List.not_mem_nil, or_false] at hv; rcases hv with rfl | rfl | rfl | rfl | rfl <;> rfl)
/-- A state's cells. -/
abbrev rv (q : Rs) : Array Value := #[.int .i64 q.r, .int .i64 q.g, .int .i64 q.b, .int .i64 q.t, .bool q.p]
/-- What a function hands back that is a state. -/
def RPost (q : Rs) (w : World) (e : Ending) (w' : World) : Prop := e = .returned (.agg (rv q)) ∧ Below w.heap.size w w'
theorem r_parts {q : Rs} {r g b t : Int} {p : Bool} (ht : q = ⟨r, g, b, t, p⟩) {w w' : World} {e : Ending} (hp : RPost q w e w') : e = .returned (.agg #[.int .i64 r, .int .i64 g, .int .i64 b, .int .i64 t, .bool p]) ∧ Below w.heap.size w w' := by subst ht; exact hp
/-- The last of the conditions: the last outcome ended the row of the other kind. -/
def Zr (g b : Int) (p : Bool) : Prop := (g = 0 ∨ b = 0) ∧ (p = true → g = 0 ∧ b = 0)
instance (g b : Int) (p : Bool) : Decidable (Zr g b p) := by unfold Zr; infer_instance
theorem va_eq {r g b t : Int} {p t1 t2 t3 t4 t5 : Bool} (h1 : decide (Vr r) = t1) (h2 : decide (Vt t) = t2) (h3 : decide (0 ≤ g ∧ g ≤ t) = t3) (h4 : decide (0 ≤ b ∧ b ≤ 1) = t4) (h5 : decide (Zr g b p) = t5) : va ⟨r, g, b, t, p⟩ = (t1 && (t2 && (t3 && (t4 && t5)))) := by
  subst h1 h2 h3 h4 h5
  rw [Bool.eq_iff_iff]
  unfold va
  simp only [Bool.and_eq_true, decide_eq_true_iff]
  unfold Va Zr Vr
  rfl
set_option maxRecDepth 100000 in
set_option maxHeartbeats 4000000 in
theorem thr (t : Int) (v : Bool) (w : World) (h : decide (Vt t) = v) :
    Calls Try.prog 62 #[.int .i64 t] w (Bit v w) := by
  have H := Lib.hid (show decide (t ∈ ([10, 20, 40] : List Int)) = v by rw [← h, decide_eq_decide]; unfold Vt; simp)
  clear h
  go_enter Try.func62, Try.ntmps62
  go_wp2_with fail
  (with_reducible refine (containsI [10, 20, 40] t w.heap.size (w.heap.size + 1) (some ⟨w.heap.size, 0, none⟩) 3 3 _ ?_).mono ?_)
  · have h := (Ow.lit (E := 3) (k := .i64) w #[.int .i64 10, .int .i64 20, .int .i64 40] [10, 20, 40] rfl (Wf.of_i64 (by intro z hz; simp at hz; omega)) (by unfold maxLen; simp) rfl).rd
    simpa using h
  · rintro e w1 ⟨rfl, rfl⟩
    rw [H.out]
    go_wp2_with fail
    go_ret
    exact ⟨rfl, below_box _ _⟩
set_option maxRecDepth 100000 in
set_option maxHeartbeats 4000000 in
theorem implVa (r g b t : Int) (p : Bool) (w : World) :
    Calls Try.prog 25 #[.agg #[.int .i64 r, .int .i64 g, .int .i64 b, .int .i64 t, .bool p]] w (BPost (va ⟨r, g, b, t, p⟩) w) := by
  obtain ⟨t1, h1⟩ : ∃ x, decide (Vr r) = x := ⟨_, rfl⟩
  obtain ⟨t2, h2⟩ : ∃ x, decide (Vt t) = x := ⟨_, rfl⟩
  obtain ⟨t3, h3⟩ : ∃ x, decide (0 ≤ g ∧ g ≤ t) = x := ⟨_, rfl⟩
  obtain ⟨t4, h4⟩ : ∃ x, decide (0 ≤ b ∧ b ≤ 1) = x := ⟨_, rfl⟩
  obtain ⟨t5, h5⟩ : ∃ x, decide (Zr g b p) = x := ⟨_, rfl⟩
  have HV := Lib.hid (va_eq h1 h2 h3 h4 h5)
  have H1 := Lib.hid h1
  have H2 := Lib.hid h2
  have H3 := Lib.hid h3
  have H4 := Lib.hid h4
  have H5 := Lib.hid h5
  clear h1 h2 h3 h4 h5
  go_enter Try.func25, Try.ntmps25
  go_wp2_with fail
  obtain ⟨w0, hW⟩ : ∃ w0, w.alloc (.cells #[.int .i64 r, .int .i64 g, .int .i64 b, .int .i64 t, .bool p] 32) = w0 := ⟨_, rfl⟩
  rw [hW]
  have B0 := Lib.hid (show Below w.heap.size w w0 by rw [← hW]; exact (Below.refl _ _).alloc (by simp <;> omega) _)
  have X0 := Lib.hid (show Bx 32 w0 (w.heap.size) #[.int .i64 r, .int .i64 g, .int .i64 b, .int .i64 t, .bool p] by
      rw [← hW]
      have hh := Bx.made 32 w #[.int .i64 r, .int .i64 g, .int .i64 b, .int .i64 t, .bool p]
      exact hh)
  clear hW
  have LTX := Lib.hid X0.out.lt
  have cX0 : w0.cell? ⟨w.heap.size, 0, none⟩ = some (.int .i64 r) := X0.out.cell 0
  have cX1 : w0.cell? ⟨w.heap.size, 1, none⟩ = some (.int .i64 g) := X0.out.cell 1
  have cX2 : w0.cell? ⟨w.heap.size, 2, none⟩ = some (.int .i64 b) := X0.out.cell 2
  have cX3 : w0.cell? ⟨w.heap.size, 3, none⟩ = some (.int .i64 t) := X0.out.cell 3
  have cX4 : w0.cell? ⟨w.heap.size, 4, none⟩ = some (.bool p) := X0.out.cell 4
  go_wp2_with fail
  clear cX0 cX1 cX2 cX3 cX4
  (with_reducible refine (airs.implVr r _).mono ?_)
  rintro e w1 hp
  obtain ⟨rfl, hb⟩ := airs.Bit.parts H1.out hp
  clear hp
  have SS1 := Lib.hid hb.size
  have B1 := Lib.hid (B0.out.trans (hb.mono B0.out.size))
  have X1 := Lib.hid (X0.out.below hb)
  clear hb  B0 X0
  cases t1 with
  | true =>
    have cX3 : w1.cell? ⟨w.heap.size, 3, none⟩ = some (.int .i64 t) := X1.out.cell 3
    go_wp2_with fail
    clear cX3
    (with_reducible refine (thr t t2 _ H2.out).mono ?_)
    rintro e w2 hp
    obtain ⟨rfl, hb⟩ := airs.Bit.parts rfl hp
    clear hp
    have SS2 := Lib.hid hb.size
    have B2 := Lib.hid (B1.out.trans (hb.mono B1.out.size))
    have X2 := Lib.hid (X1.out.below hb)
    clear hb  B1 X1
    cases t2 with
    | true =>
      have cX1 : w2.cell? ⟨w.heap.size, 1, none⟩ = some (.int .i64 g) := X2.out.cell 1
      have cX3 : w2.cell? ⟨w.heap.size, 3, none⟩ = some (.int .i64 t) := X2.out.cell 3
      go_wp2_with fail
      clear cX1 cX3
      (with_reducible refine (inR g 0 t t3 _ H3.out).mono ?_)
      rintro e wq ⟨rfl, rfl⟩
      cases t3 with
      | true =>
        have cX2 : w2.cell? ⟨w.heap.size, 2, none⟩ = some (.int .i64 b) := X2.out.cell 2
        go_wp2_with fail
        clear cX2
        (with_reducible refine (inR b 0 1 t4 _ H4.out).mono ?_)
        rintro e wq ⟨rfl, rfl⟩
        cases t4 with
        | true =>
          have m1 : IntKind.i64.wrap (g + b) = g + b := IntWalk.i64_in _ (by have h3 := of_decide_eq_true H3.out; have h4 := of_decide_eq_true H4.out; have h2 := of_decide_eq_true H2.out; unfold Vt at h2; omega)
          have hgb : 0 ≤ g ∧ 0 ≤ b := by have h3 := of_decide_eq_true H3.out; have h4 := of_decide_eq_true H4.out; omega
          by_cases hg : g = 0
          · subst hg
            by_cases hb : b = 0
            · subst hb
              cases p with
              | true =>
                have e5 := H5.out
                obtain rfl : t5 = true := by rw [← e5]; unfold Zr; simp []
                clear e5
                have cX1 : w2.cell? ⟨w.heap.size, 1, none⟩ = some (.int .i64 0) := X2.out.cell 1
                have cX2 : w2.cell? ⟨w.heap.size, 2, none⟩ = some (.int .i64 0) := X2.out.cell 2
                have cX4 : w2.cell? ⟨w.heap.size, 4, none⟩ = some (.bool true) := X2.out.cell 4
                go_wp2_with fail
                go_ret
                rw [HV.out]
                exact ⟨by simp, B2.out⟩
              | false =>
                have e5 := H5.out
                obtain rfl : t5 = true := by rw [← e5]; unfold Zr; simp []
                clear e5
                have cX1 : w2.cell? ⟨w.heap.size, 1, none⟩ = some (.int .i64 0) := X2.out.cell 1
                have cX2 : w2.cell? ⟨w.heap.size, 2, none⟩ = some (.int .i64 0) := X2.out.cell 2
                have cX4 : w2.cell? ⟨w.heap.size, 4, none⟩ = some (.bool false) := X2.out.cell 4
                go_wp2_with fail
                go_ret
                rw [HV.out]
                exact ⟨by simp, B2.out⟩
            · cases p with
              | true =>
                have e5 := H5.out
                obtain rfl : t5 = false := by rw [← e5]; unfold Zr; simp [hb]
                clear e5
                have cX1 : w2.cell? ⟨w.heap.size, 1, none⟩ = some (.int .i64 0) := X2.out.cell 1
                have cX2 : w2.cell? ⟨w.heap.size, 2, none⟩ = some (.int .i64 b) := X2.out.cell 2
                have cX4 : w2.cell? ⟨w.heap.size, 4, none⟩ = some (.bool true) := X2.out.cell 4
                have m2 : wrap64 b = b := by have h3 := of_decide_eq_true H3.out; have h4 := of_decide_eq_true H4.out; have h2 := of_decide_eq_true H2.out; unfold Vt at h2; unfold wrap64; omega
                have m3 : 0 < b := by have := hgb; omega
                go_wp2_with fail
                go_ret
                rw [HV.out]
                exact ⟨by simp, B2.out⟩
              | false =>
                have e5 := H5.out
                obtain rfl : t5 = true := by rw [← e5]; unfold Zr; simp [hb]
                clear e5
                have cX1 : w2.cell? ⟨w.heap.size, 1, none⟩ = some (.int .i64 0) := X2.out.cell 1
                have cX2 : w2.cell? ⟨w.heap.size, 2, none⟩ = some (.int .i64 b) := X2.out.cell 2
                have cX4 : w2.cell? ⟨w.heap.size, 4, none⟩ = some (.bool false) := X2.out.cell 4
                have m2 : wrap64 b = b := by have h3 := of_decide_eq_true H3.out; have h4 := of_decide_eq_true H4.out; have h2 := of_decide_eq_true H2.out; unfold Vt at h2; unfold wrap64; omega
                have m3 : 0 < b := by have := hgb; omega
                go_wp2_with fail
                go_ret
                rw [HV.out]
                exact ⟨by simp, B2.out⟩
          · by_cases hb : b = 0
            · subst hb
              cases p with
              | true =>
                have e5 := H5.out
                obtain rfl : t5 = false := by rw [← e5]; unfold Zr; simp [hg]
                clear e5
                have cX1 : w2.cell? ⟨w.heap.size, 1, none⟩ = some (.int .i64 g) := X2.out.cell 1
                have cX2 : w2.cell? ⟨w.heap.size, 2, none⟩ = some (.int .i64 0) := X2.out.cell 2
                have cX4 : w2.cell? ⟨w.heap.size, 4, none⟩ = some (.bool true) := X2.out.cell 4
                have m2 : wrap64 g = g := by have h3 := of_decide_eq_true H3.out; have h4 := of_decide_eq_true H4.out; have h2 := of_decide_eq_true H2.out; unfold Vt at h2; unfold wrap64; omega
                have m3 : 0 < g := by have := hgb; omega
                go_wp2_with fail
                go_ret
                rw [HV.out]
                exact ⟨by simp, B2.out⟩
              | false =>
                have e5 := H5.out
                obtain rfl : t5 = true := by rw [← e5]; unfold Zr; simp [hg]
                clear e5
                have cX1 : w2.cell? ⟨w.heap.size, 1, none⟩ = some (.int .i64 g) := X2.out.cell 1
                have cX2 : w2.cell? ⟨w.heap.size, 2, none⟩ = some (.int .i64 0) := X2.out.cell 2
                have cX4 : w2.cell? ⟨w.heap.size, 4, none⟩ = some (.bool false) := X2.out.cell 4
                have m2 : wrap64 g = g := by have h3 := of_decide_eq_true H3.out; have h4 := of_decide_eq_true H4.out; have h2 := of_decide_eq_true H2.out; unfold Vt at h2; unfold wrap64; omega
                have m3 : 0 < g := by have := hgb; omega
                go_wp2_with fail
                go_ret
                rw [HV.out]
                exact ⟨by simp, B2.out⟩
            · cases p with
              | true =>
                have e5 := H5.out
                obtain rfl : t5 = false := by rw [← e5]; unfold Zr; simp [hg, hb]
                clear e5
                have cX1 : w2.cell? ⟨w.heap.size, 1, none⟩ = some (.int .i64 g) := X2.out.cell 1
                have cX2 : w2.cell? ⟨w.heap.size, 2, none⟩ = some (.int .i64 b) := X2.out.cell 2
                have cX4 : w2.cell? ⟨w.heap.size, 4, none⟩ = some (.bool true) := X2.out.cell 4
                go_wp2_with fail
                go_ret
                rw [HV.out]
                exact ⟨by simp, B2.out⟩
              | false =>
                have e5 := H5.out
                obtain rfl : t5 = false := by rw [← e5]; unfold Zr; simp [hg, hb]
                clear e5
                have cX1 : w2.cell? ⟨w.heap.size, 1, none⟩ = some (.int .i64 g) := X2.out.cell 1
                have cX2 : w2.cell? ⟨w.heap.size, 2, none⟩ = some (.int .i64 b) := X2.out.cell 2
                have cX4 : w2.cell? ⟨w.heap.size, 4, none⟩ = some (.bool false) := X2.out.cell 4
                go_wp2_with fail
                go_ret
                rw [HV.out]
                exact ⟨by simp, B2.out⟩
        | false =>
          go_wp2_with fail
          go_ret
          rw [HV.out]
          exact ⟨by simp, B2.out⟩
      | false =>
        go_wp2_with fail
        go_ret
        rw [HV.out]
        exact ⟨by simp, B2.out⟩
    | false =>
      go_wp2_with fail
      go_ret
      rw [HV.out]
      exact ⟨by simp, B2.out⟩
  | false =>
    go_wp2_with fail
    go_ret
    rw [HV.out]
    exact ⟨by simp, B1.out⟩
set_option maxRecDepth 100000 in
set_option maxHeartbeats 4000000 in
theorem specVa (r g b t : Int) (p : Bool) (w : World) :
    Calls Try.prog 24 #[.agg #[.int .i64 r, .int .i64 g, .int .i64 b, .int .i64 t, .bool p]] w (BPost (va ⟨r, g, b, t, p⟩) w) := by
  obtain ⟨t1, h1⟩ : ∃ x, decide (Vr r) = x := ⟨_, rfl⟩
  obtain ⟨t2, h2⟩ : ∃ x, decide (Vt t) = x := ⟨_, rfl⟩
  obtain ⟨t3, h3⟩ : ∃ x, decide (0 ≤ g ∧ g ≤ t) = x := ⟨_, rfl⟩
  obtain ⟨t4, h4⟩ : ∃ x, decide (0 ≤ b ∧ b ≤ 1) = x := ⟨_, rfl⟩
  obtain ⟨t5, h5⟩ : ∃ x, decide (Zr g b p) = x := ⟨_, rfl⟩
  have HV := Lib.hid (va_eq h1 h2 h3 h4 h5)
  have H1 := Lib.hid h1
  have H2 := Lib.hid h2
  have H3 := Lib.hid h3
  have H4 := Lib.hid h4
  have H5 := Lib.hid h5
  clear h1 h2 h3 h4 h5
  go_enter Try.func24, Try.ntmps24
  go_upto_region 1 with fail
  obtain ⟨w0, hW⟩ : ∃ w0, w.alloc (.cells #[.int .i64 r, .int .i64 g, .int .i64 b, .int .i64 t, .bool p] 32) = w0 := ⟨_, rfl⟩
  rw [hW]
  have B0 := Lib.hid (show Below w.heap.size w w0 by rw [← hW]; exact (Below.refl _ _).alloc (by simp <;> omega) _)
  have X0 := Lib.hid (show Bx 32 w0 (w.heap.size) #[.int .i64 r, .int .i64 g, .int .i64 b, .int .i64 t, .bool p] by
      rw [← hW]
      have hh := Bx.made 32 w #[.int .i64 r, .int .i64 g, .int .i64 b, .int .i64 t, .bool p]
      exact hh)
  clear hW
  have LTX := Lib.hid X0.out.lt
  by_cases ht : t = 10
  · subst ht
    obtain rfl : t2 = true := by rw [← H2.out]; decide
    by_cases hg : g = 0
    · subst hg
      by_cases hb : b = 0
      · subst hb
        cases p with
        | true =>
          have e5 := H5.out
          obtain rfl : t5 = true := by rw [← e5]; unfold Zr; simp []
          clear e5
          have cX0 : w0.cell? ⟨w.heap.size, 0, none⟩ = some (.int .i64 r) := X0.out.cell 0
          have cX1 : w0.cell? ⟨w.heap.size, 1, none⟩ = some (.int .i64 0) := X0.out.cell 1
          have cX2 : w0.cell? ⟨w.heap.size, 2, none⟩ = some (.int .i64 0) := X0.out.cell 2
          have cX3 : w0.cell? ⟨w.heap.size, 3, none⟩ = some (.int .i64 10) := X0.out.cell 3
          have cX4 : w0.cell? ⟨w.heap.size, 4, none⟩ = some (.bool true) := X0.out.cell 4
          go_wp2_with fail
          clear cX0 cX1 cX2 cX3 cX4
          (with_reducible refine (airs.specVr r _).mono ?_)
          rintro e w1 hp
          obtain ⟨rfl, hb⟩ := airs.Bit.parts H1.out hp
          clear hp
          have SS1 := Lib.hid hb.size
          have B1 := Lib.hid (B0.out.trans (hb.mono B0.out.size))
          have X1 := Lib.hid (X0.out.below hb)
          clear hb  B0 X0
          cases t1 with
          | true =>
            have cX1 : w1.cell? ⟨w.heap.size, 1, none⟩ = some (.int .i64 0) := X1.out.cell 1
            have cX3 : w1.cell? ⟨w.heap.size, 3, none⟩ = some (.int .i64 10) := X1.out.cell 3
            go_wp2_with fail
            clear cX1 cX3
            (with_reducible refine (l1R 0 0 10 t3 _ H3.out).mono ?_)
            rintro e wq ⟨rfl, rfl⟩
            cases t3 with
            | true =>
              have cX2 : w1.cell? ⟨w.heap.size, 2, none⟩ = some (.int .i64 0) := X1.out.cell 2
              go_wp2_with fail
              clear cX2
              (with_reducible refine (l1R 0 0 1 t4 _ H4.out).mono ?_)
              rintro e wq ⟨rfl, rfl⟩
              cases t4 with
              | true =>
                go_wp2_with fail
                go_ret
                rw [HV.out]
                exact ⟨by simp, B1.out⟩
              | false =>
                go_wp2_with fail
                go_ret
                rw [HV.out]
                exact ⟨by simp, B1.out⟩
            | false =>
              go_wp2_with fail
              go_ret
              rw [HV.out]
              exact ⟨by simp, B1.out⟩
          | false =>
            go_wp2_with fail
            go_ret
            rw [HV.out]
            exact ⟨by simp, B1.out⟩
        | false =>
          have e5 := H5.out
          obtain rfl : t5 = true := by rw [← e5]; unfold Zr; simp []
          clear e5
          have cX0 : w0.cell? ⟨w.heap.size, 0, none⟩ = some (.int .i64 r) := X0.out.cell 0
          have cX1 : w0.cell? ⟨w.heap.size, 1, none⟩ = some (.int .i64 0) := X0.out.cell 1
          have cX2 : w0.cell? ⟨w.heap.size, 2, none⟩ = some (.int .i64 0) := X0.out.cell 2
          have cX3 : w0.cell? ⟨w.heap.size, 3, none⟩ = some (.int .i64 10) := X0.out.cell 3
          have cX4 : w0.cell? ⟨w.heap.size, 4, none⟩ = some (.bool false) := X0.out.cell 4
          go_wp2_with fail
          clear cX0 cX1 cX2 cX3 cX4
          (with_reducible refine (airs.specVr r _).mono ?_)
          rintro e w1 hp
          obtain ⟨rfl, hb⟩ := airs.Bit.parts H1.out hp
          clear hp
          have SS1 := Lib.hid hb.size
          have B1 := Lib.hid (B0.out.trans (hb.mono B0.out.size))
          have X1 := Lib.hid (X0.out.below hb)
          clear hb  B0 X0
          cases t1 with
          | true =>
            have cX1 : w1.cell? ⟨w.heap.size, 1, none⟩ = some (.int .i64 0) := X1.out.cell 1
            have cX3 : w1.cell? ⟨w.heap.size, 3, none⟩ = some (.int .i64 10) := X1.out.cell 3
            go_wp2_with fail
            clear cX1 cX3
            (with_reducible refine (l1R 0 0 10 t3 _ H3.out).mono ?_)
            rintro e wq ⟨rfl, rfl⟩
            cases t3 with
            | true =>
              have cX2 : w1.cell? ⟨w.heap.size, 2, none⟩ = some (.int .i64 0) := X1.out.cell 2
              go_wp2_with fail
              clear cX2
              (with_reducible refine (l1R 0 0 1 t4 _ H4.out).mono ?_)
              rintro e wq ⟨rfl, rfl⟩
              cases t4 with
              | true =>
                go_wp2_with fail
                go_ret
                rw [HV.out]
                exact ⟨by simp, B1.out⟩
              | false =>
                go_wp2_with fail
                go_ret
                rw [HV.out]
                exact ⟨by simp, B1.out⟩
            | false =>
              go_wp2_with fail
              go_ret
              rw [HV.out]
              exact ⟨by simp, B1.out⟩
          | false =>
            go_wp2_with fail
            go_ret
            rw [HV.out]
            exact ⟨by simp, B1.out⟩
      · cases p with
        | true =>
          have e5 := H5.out
          obtain rfl : t5 = false := by rw [← e5]; unfold Zr; simp [hb]
          clear e5
          have cX0 : w0.cell? ⟨w.heap.size, 0, none⟩ = some (.int .i64 r) := X0.out.cell 0
          have cX1 : w0.cell? ⟨w.heap.size, 1, none⟩ = some (.int .i64 0) := X0.out.cell 1
          have cX2 : w0.cell? ⟨w.heap.size, 2, none⟩ = some (.int .i64 b) := X0.out.cell 2
          have cX3 : w0.cell? ⟨w.heap.size, 3, none⟩ = some (.int .i64 10) := X0.out.cell 3
          have cX4 : w0.cell? ⟨w.heap.size, 4, none⟩ = some (.bool true) := X0.out.cell 4
          go_wp2_with fail
          go_ret
          rw [HV.out]
          exact ⟨by simp, B0.out⟩
        | false =>
          have e5 := H5.out
          obtain rfl : t5 = true := by rw [← e5]; unfold Zr; simp [hb]
          clear e5
          have cX0 : w0.cell? ⟨w.heap.size, 0, none⟩ = some (.int .i64 r) := X0.out.cell 0
          have cX1 : w0.cell? ⟨w.heap.size, 1, none⟩ = some (.int .i64 0) := X0.out.cell 1
          have cX2 : w0.cell? ⟨w.heap.size, 2, none⟩ = some (.int .i64 b) := X0.out.cell 2
          have cX3 : w0.cell? ⟨w.heap.size, 3, none⟩ = some (.int .i64 10) := X0.out.cell 3
          have cX4 : w0.cell? ⟨w.heap.size, 4, none⟩ = some (.bool false) := X0.out.cell 4
          go_wp2_with fail
          clear cX0 cX1 cX2 cX3 cX4
          (with_reducible refine (airs.specVr r _).mono ?_)
          rintro e w1 hp
          obtain ⟨rfl, hb⟩ := airs.Bit.parts H1.out hp
          clear hp
          have SS1 := Lib.hid hb.size
          have B1 := Lib.hid (B0.out.trans (hb.mono B0.out.size))
          have X1 := Lib.hid (X0.out.below hb)
          clear hb  B0 X0
          cases t1 with
          | true =>
            have cX1 : w1.cell? ⟨w.heap.size, 1, none⟩ = some (.int .i64 0) := X1.out.cell 1
            have cX3 : w1.cell? ⟨w.heap.size, 3, none⟩ = some (.int .i64 10) := X1.out.cell 3
            go_wp2_with fail
            clear cX1 cX3
            (with_reducible refine (l1R 0 0 10 t3 _ H3.out).mono ?_)
            rintro e wq ⟨rfl, rfl⟩
            cases t3 with
            | true =>
              have cX2 : w1.cell? ⟨w.heap.size, 2, none⟩ = some (.int .i64 b) := X1.out.cell 2
              go_wp2_with fail
              clear cX2
              (with_reducible refine (l1R b 0 1 t4 _ H4.out).mono ?_)
              rintro e wq ⟨rfl, rfl⟩
              cases t4 with
              | true =>
                go_wp2_with fail
                go_ret
                rw [HV.out]
                exact ⟨by simp, B1.out⟩
              | false =>
                go_wp2_with fail
                go_ret
                rw [HV.out]
                exact ⟨by simp, B1.out⟩
            | false =>
              go_wp2_with fail
              go_ret
              rw [HV.out]
              exact ⟨by simp, B1.out⟩
          | false =>
            go_wp2_with fail
            go_ret
            rw [HV.out]
            exact ⟨by simp, B1.out⟩
    · by_cases hb : b = 0
      · subst hb
        cases p with
        | true =>
          have e5 := H5.out
          obtain rfl : t5 = false := by rw [← e5]; unfold Zr; simp [hg]
          clear e5
          have cX0 : w0.cell? ⟨w.heap.size, 0, none⟩ = some (.int .i64 r) := X0.out.cell 0
          have cX1 : w0.cell? ⟨w.heap.size, 1, none⟩ = some (.int .i64 g) := X0.out.cell 1
          have cX2 : w0.cell? ⟨w.heap.size, 2, none⟩ = some (.int .i64 0) := X0.out.cell 2
          have cX3 : w0.cell? ⟨w.heap.size, 3, none⟩ = some (.int .i64 10) := X0.out.cell 3
          have cX4 : w0.cell? ⟨w.heap.size, 4, none⟩ = some (.bool true) := X0.out.cell 4
          go_wp2_with fail
          go_ret
          rw [HV.out]
          exact ⟨by simp, B0.out⟩
        | false =>
          have e5 := H5.out
          obtain rfl : t5 = true := by rw [← e5]; unfold Zr; simp [hg]
          clear e5
          have cX0 : w0.cell? ⟨w.heap.size, 0, none⟩ = some (.int .i64 r) := X0.out.cell 0
          have cX1 : w0.cell? ⟨w.heap.size, 1, none⟩ = some (.int .i64 g) := X0.out.cell 1
          have cX2 : w0.cell? ⟨w.heap.size, 2, none⟩ = some (.int .i64 0) := X0.out.cell 2
          have cX3 : w0.cell? ⟨w.heap.size, 3, none⟩ = some (.int .i64 10) := X0.out.cell 3
          have cX4 : w0.cell? ⟨w.heap.size, 4, none⟩ = some (.bool false) := X0.out.cell 4
          go_wp2_with fail
          clear cX0 cX1 cX2 cX3 cX4
          (with_reducible refine (airs.specVr r _).mono ?_)
          rintro e w1 hp
          obtain ⟨rfl, hb⟩ := airs.Bit.parts H1.out hp
          clear hp
          have SS1 := Lib.hid hb.size
          have B1 := Lib.hid (B0.out.trans (hb.mono B0.out.size))
          have X1 := Lib.hid (X0.out.below hb)
          clear hb  B0 X0
          cases t1 with
          | true =>
            have cX1 : w1.cell? ⟨w.heap.size, 1, none⟩ = some (.int .i64 g) := X1.out.cell 1
            have cX3 : w1.cell? ⟨w.heap.size, 3, none⟩ = some (.int .i64 10) := X1.out.cell 3
            go_wp2_with fail
            clear cX1 cX3
            (with_reducible refine (l1R g 0 10 t3 _ H3.out).mono ?_)
            rintro e wq ⟨rfl, rfl⟩
            cases t3 with
            | true =>
              have cX2 : w1.cell? ⟨w.heap.size, 2, none⟩ = some (.int .i64 0) := X1.out.cell 2
              go_wp2_with fail
              clear cX2
              (with_reducible refine (l1R 0 0 1 t4 _ H4.out).mono ?_)
              rintro e wq ⟨rfl, rfl⟩
              cases t4 with
              | true =>
                go_wp2_with fail
                go_ret
                rw [HV.out]
                exact ⟨by simp, B1.out⟩
              | false =>
                go_wp2_with fail
                go_ret
                rw [HV.out]
                exact ⟨by simp, B1.out⟩
            | false =>
              go_wp2_with fail
              go_ret
              rw [HV.out]
              exact ⟨by simp, B1.out⟩
          | false =>
            go_wp2_with fail
            go_ret
            rw [HV.out]
            exact ⟨by simp, B1.out⟩
      · cases p with
        | true =>
          have e5 := H5.out
          obtain rfl : t5 = false := by rw [← e5]; unfold Zr; simp [hg, hb]
          clear e5
          have cX0 : w0.cell? ⟨w.heap.size, 0, none⟩ = some (.int .i64 r) := X0.out.cell 0
          have cX1 : w0.cell? ⟨w.heap.size, 1, none⟩ = some (.int .i64 g) := X0.out.cell 1
          have cX2 : w0.cell? ⟨w.heap.size, 2, none⟩ = some (.int .i64 b) := X0.out.cell 2
          have cX3 : w0.cell? ⟨w.heap.size, 3, none⟩ = some (.int .i64 10) := X0.out.cell 3
          have cX4 : w0.cell? ⟨w.heap.size, 4, none⟩ = some (.bool true) := X0.out.cell 4
          go_wp2_with fail
          go_ret
          rw [HV.out]
          exact ⟨by simp, B0.out⟩
        | false =>
          have e5 := H5.out
          obtain rfl : t5 = false := by rw [← e5]; unfold Zr; simp [hg, hb]
          clear e5
          have cX0 : w0.cell? ⟨w.heap.size, 0, none⟩ = some (.int .i64 r) := X0.out.cell 0
          have cX1 : w0.cell? ⟨w.heap.size, 1, none⟩ = some (.int .i64 g) := X0.out.cell 1
          have cX2 : w0.cell? ⟨w.heap.size, 2, none⟩ = some (.int .i64 b) := X0.out.cell 2
          have cX3 : w0.cell? ⟨w.heap.size, 3, none⟩ = some (.int .i64 10) := X0.out.cell 3
          have cX4 : w0.cell? ⟨w.heap.size, 4, none⟩ = some (.bool false) := X0.out.cell 4
          go_wp2_with fail
          go_ret
          rw [HV.out]
          exact ⟨by simp, B0.out⟩
  · have n10 := ht
    clear ht
    by_cases ht : t = 20
    · subst ht
      obtain rfl : t2 = true := by rw [← H2.out]; decide
      by_cases hg : g = 0
      · subst hg
        by_cases hb : b = 0
        · subst hb
          cases p with
          | true =>
            have e5 := H5.out
            obtain rfl : t5 = true := by rw [← e5]; unfold Zr; simp []
            clear e5
            have cX0 : w0.cell? ⟨w.heap.size, 0, none⟩ = some (.int .i64 r) := X0.out.cell 0
            have cX1 : w0.cell? ⟨w.heap.size, 1, none⟩ = some (.int .i64 0) := X0.out.cell 1
            have cX2 : w0.cell? ⟨w.heap.size, 2, none⟩ = some (.int .i64 0) := X0.out.cell 2
            have cX3 : w0.cell? ⟨w.heap.size, 3, none⟩ = some (.int .i64 20) := X0.out.cell 3
            have cX4 : w0.cell? ⟨w.heap.size, 4, none⟩ = some (.bool true) := X0.out.cell 4
            go_wp2_with fail
            clear cX0 cX1 cX2 cX3 cX4
            (with_reducible refine (airs.specVr r _).mono ?_)
            rintro e w1 hp
            obtain ⟨rfl, hb⟩ := airs.Bit.parts H1.out hp
            clear hp
            have SS1 := Lib.hid hb.size
            have B1 := Lib.hid (B0.out.trans (hb.mono B0.out.size))
            have X1 := Lib.hid (X0.out.below hb)
            clear hb  B0 X0
            cases t1 with
            | true =>
              have cX1 : w1.cell? ⟨w.heap.size, 1, none⟩ = some (.int .i64 0) := X1.out.cell 1
              have cX3 : w1.cell? ⟨w.heap.size, 3, none⟩ = some (.int .i64 20) := X1.out.cell 3
              go_wp2_with fail
              clear cX1 cX3
              (with_reducible refine (l1R 0 0 20 t3 _ H3.out).mono ?_)
              rintro e wq ⟨rfl, rfl⟩
              cases t3 with
              | true =>
                have cX2 : w1.cell? ⟨w.heap.size, 2, none⟩ = some (.int .i64 0) := X1.out.cell 2
                go_wp2_with fail
                clear cX2
                (with_reducible refine (l1R 0 0 1 t4 _ H4.out).mono ?_)
                rintro e wq ⟨rfl, rfl⟩
                cases t4 with
                | true =>
                  go_wp2_with fail
                  go_ret
                  rw [HV.out]
                  exact ⟨by simp, B1.out⟩
                | false =>
                  go_wp2_with fail
                  go_ret
                  rw [HV.out]
                  exact ⟨by simp, B1.out⟩
              | false =>
                go_wp2_with fail
                go_ret
                rw [HV.out]
                exact ⟨by simp, B1.out⟩
            | false =>
              go_wp2_with fail
              go_ret
              rw [HV.out]
              exact ⟨by simp, B1.out⟩
          | false =>
            have e5 := H5.out
            obtain rfl : t5 = true := by rw [← e5]; unfold Zr; simp []
            clear e5
            have cX0 : w0.cell? ⟨w.heap.size, 0, none⟩ = some (.int .i64 r) := X0.out.cell 0
            have cX1 : w0.cell? ⟨w.heap.size, 1, none⟩ = some (.int .i64 0) := X0.out.cell 1
            have cX2 : w0.cell? ⟨w.heap.size, 2, none⟩ = some (.int .i64 0) := X0.out.cell 2
            have cX3 : w0.cell? ⟨w.heap.size, 3, none⟩ = some (.int .i64 20) := X0.out.cell 3
            have cX4 : w0.cell? ⟨w.heap.size, 4, none⟩ = some (.bool false) := X0.out.cell 4
            go_wp2_with fail
            clear cX0 cX1 cX2 cX3 cX4
            (with_reducible refine (airs.specVr r _).mono ?_)
            rintro e w1 hp
            obtain ⟨rfl, hb⟩ := airs.Bit.parts H1.out hp
            clear hp
            have SS1 := Lib.hid hb.size
            have B1 := Lib.hid (B0.out.trans (hb.mono B0.out.size))
            have X1 := Lib.hid (X0.out.below hb)
            clear hb  B0 X0
            cases t1 with
            | true =>
              have cX1 : w1.cell? ⟨w.heap.size, 1, none⟩ = some (.int .i64 0) := X1.out.cell 1
              have cX3 : w1.cell? ⟨w.heap.size, 3, none⟩ = some (.int .i64 20) := X1.out.cell 3
              go_wp2_with fail
              clear cX1 cX3
              (with_reducible refine (l1R 0 0 20 t3 _ H3.out).mono ?_)
              rintro e wq ⟨rfl, rfl⟩
              cases t3 with
              | true =>
                have cX2 : w1.cell? ⟨w.heap.size, 2, none⟩ = some (.int .i64 0) := X1.out.cell 2
                go_wp2_with fail
                clear cX2
                (with_reducible refine (l1R 0 0 1 t4 _ H4.out).mono ?_)
                rintro e wq ⟨rfl, rfl⟩
                cases t4 with
                | true =>
                  go_wp2_with fail
                  go_ret
                  rw [HV.out]
                  exact ⟨by simp, B1.out⟩
                | false =>
                  go_wp2_with fail
                  go_ret
                  rw [HV.out]
                  exact ⟨by simp, B1.out⟩
              | false =>
                go_wp2_with fail
                go_ret
                rw [HV.out]
                exact ⟨by simp, B1.out⟩
            | false =>
              go_wp2_with fail
              go_ret
              rw [HV.out]
              exact ⟨by simp, B1.out⟩
        · cases p with
          | true =>
            have e5 := H5.out
            obtain rfl : t5 = false := by rw [← e5]; unfold Zr; simp [hb]
            clear e5
            have cX0 : w0.cell? ⟨w.heap.size, 0, none⟩ = some (.int .i64 r) := X0.out.cell 0
            have cX1 : w0.cell? ⟨w.heap.size, 1, none⟩ = some (.int .i64 0) := X0.out.cell 1
            have cX2 : w0.cell? ⟨w.heap.size, 2, none⟩ = some (.int .i64 b) := X0.out.cell 2
            have cX3 : w0.cell? ⟨w.heap.size, 3, none⟩ = some (.int .i64 20) := X0.out.cell 3
            have cX4 : w0.cell? ⟨w.heap.size, 4, none⟩ = some (.bool true) := X0.out.cell 4
            go_wp2_with fail
            go_ret
            rw [HV.out]
            exact ⟨by simp, B0.out⟩
          | false =>
            have e5 := H5.out
            obtain rfl : t5 = true := by rw [← e5]; unfold Zr; simp [hb]
            clear e5
            have cX0 : w0.cell? ⟨w.heap.size, 0, none⟩ = some (.int .i64 r) := X0.out.cell 0
            have cX1 : w0.cell? ⟨w.heap.size, 1, none⟩ = some (.int .i64 0) := X0.out.cell 1
            have cX2 : w0.cell? ⟨w.heap.size, 2, none⟩ = some (.int .i64 b) := X0.out.cell 2
            have cX3 : w0.cell? ⟨w.heap.size, 3, none⟩ = some (.int .i64 20) := X0.out.cell 3
            have cX4 : w0.cell? ⟨w.heap.size, 4, none⟩ = some (.bool false) := X0.out.cell 4
            go_wp2_with fail
            clear cX0 cX1 cX2 cX3 cX4
            (with_reducible refine (airs.specVr r _).mono ?_)
            rintro e w1 hp
            obtain ⟨rfl, hb⟩ := airs.Bit.parts H1.out hp
            clear hp
            have SS1 := Lib.hid hb.size
            have B1 := Lib.hid (B0.out.trans (hb.mono B0.out.size))
            have X1 := Lib.hid (X0.out.below hb)
            clear hb  B0 X0
            cases t1 with
            | true =>
              have cX1 : w1.cell? ⟨w.heap.size, 1, none⟩ = some (.int .i64 0) := X1.out.cell 1
              have cX3 : w1.cell? ⟨w.heap.size, 3, none⟩ = some (.int .i64 20) := X1.out.cell 3
              go_wp2_with fail
              clear cX1 cX3
              (with_reducible refine (l1R 0 0 20 t3 _ H3.out).mono ?_)
              rintro e wq ⟨rfl, rfl⟩
              cases t3 with
              | true =>
                have cX2 : w1.cell? ⟨w.heap.size, 2, none⟩ = some (.int .i64 b) := X1.out.cell 2
                go_wp2_with fail
                clear cX2
                (with_reducible refine (l1R b 0 1 t4 _ H4.out).mono ?_)
                rintro e wq ⟨rfl, rfl⟩
                cases t4 with
                | true =>
                  go_wp2_with fail
                  go_ret
                  rw [HV.out]
                  exact ⟨by simp, B1.out⟩
                | false =>
                  go_wp2_with fail
                  go_ret
                  rw [HV.out]
                  exact ⟨by simp, B1.out⟩
              | false =>
                go_wp2_with fail
                go_ret
                rw [HV.out]
                exact ⟨by simp, B1.out⟩
            | false =>
              go_wp2_with fail
              go_ret
              rw [HV.out]
              exact ⟨by simp, B1.out⟩
      · by_cases hb : b = 0
        · subst hb
          cases p with
          | true =>
            have e5 := H5.out
            obtain rfl : t5 = false := by rw [← e5]; unfold Zr; simp [hg]
            clear e5
            have cX0 : w0.cell? ⟨w.heap.size, 0, none⟩ = some (.int .i64 r) := X0.out.cell 0
            have cX1 : w0.cell? ⟨w.heap.size, 1, none⟩ = some (.int .i64 g) := X0.out.cell 1
            have cX2 : w0.cell? ⟨w.heap.size, 2, none⟩ = some (.int .i64 0) := X0.out.cell 2
            have cX3 : w0.cell? ⟨w.heap.size, 3, none⟩ = some (.int .i64 20) := X0.out.cell 3
            have cX4 : w0.cell? ⟨w.heap.size, 4, none⟩ = some (.bool true) := X0.out.cell 4
            go_wp2_with fail
            go_ret
            rw [HV.out]
            exact ⟨by simp, B0.out⟩
          | false =>
            have e5 := H5.out
            obtain rfl : t5 = true := by rw [← e5]; unfold Zr; simp [hg]
            clear e5
            have cX0 : w0.cell? ⟨w.heap.size, 0, none⟩ = some (.int .i64 r) := X0.out.cell 0
            have cX1 : w0.cell? ⟨w.heap.size, 1, none⟩ = some (.int .i64 g) := X0.out.cell 1
            have cX2 : w0.cell? ⟨w.heap.size, 2, none⟩ = some (.int .i64 0) := X0.out.cell 2
            have cX3 : w0.cell? ⟨w.heap.size, 3, none⟩ = some (.int .i64 20) := X0.out.cell 3
            have cX4 : w0.cell? ⟨w.heap.size, 4, none⟩ = some (.bool false) := X0.out.cell 4
            go_wp2_with fail
            clear cX0 cX1 cX2 cX3 cX4
            (with_reducible refine (airs.specVr r _).mono ?_)
            rintro e w1 hp
            obtain ⟨rfl, hb⟩ := airs.Bit.parts H1.out hp
            clear hp
            have SS1 := Lib.hid hb.size
            have B1 := Lib.hid (B0.out.trans (hb.mono B0.out.size))
            have X1 := Lib.hid (X0.out.below hb)
            clear hb  B0 X0
            cases t1 with
            | true =>
              have cX1 : w1.cell? ⟨w.heap.size, 1, none⟩ = some (.int .i64 g) := X1.out.cell 1
              have cX3 : w1.cell? ⟨w.heap.size, 3, none⟩ = some (.int .i64 20) := X1.out.cell 3
              go_wp2_with fail
              clear cX1 cX3
              (with_reducible refine (l1R g 0 20 t3 _ H3.out).mono ?_)
              rintro e wq ⟨rfl, rfl⟩
              cases t3 with
              | true =>
                have cX2 : w1.cell? ⟨w.heap.size, 2, none⟩ = some (.int .i64 0) := X1.out.cell 2
                go_wp2_with fail
                clear cX2
                (with_reducible refine (l1R 0 0 1 t4 _ H4.out).mono ?_)
                rintro e wq ⟨rfl, rfl⟩
                cases t4 with
                | true =>
                  go_wp2_with fail
                  go_ret
                  rw [HV.out]
                  exact ⟨by simp, B1.out⟩
                | false =>
                  go_wp2_with fail
                  go_ret
                  rw [HV.out]
                  exact ⟨by simp, B1.out⟩
              | false =>
                go_wp2_with fail
                go_ret
                rw [HV.out]
                exact ⟨by simp, B1.out⟩
            | false =>
              go_wp2_with fail
              go_ret
              rw [HV.out]
              exact ⟨by simp, B1.out⟩
        · cases p with
          | true =>
            have e5 := H5.out
            obtain rfl : t5 = false := by rw [← e5]; unfold Zr; simp [hg, hb]
            clear e5
            have cX0 : w0.cell? ⟨w.heap.size, 0, none⟩ = some (.int .i64 r) := X0.out.cell 0
            have cX1 : w0.cell? ⟨w.heap.size, 1, none⟩ = some (.int .i64 g) := X0.out.cell 1
            have cX2 : w0.cell? ⟨w.heap.size, 2, none⟩ = some (.int .i64 b) := X0.out.cell 2
            have cX3 : w0.cell? ⟨w.heap.size, 3, none⟩ = some (.int .i64 20) := X0.out.cell 3
            have cX4 : w0.cell? ⟨w.heap.size, 4, none⟩ = some (.bool true) := X0.out.cell 4
            go_wp2_with fail
            go_ret
            rw [HV.out]
            exact ⟨by simp, B0.out⟩
          | false =>
            have e5 := H5.out
            obtain rfl : t5 = false := by rw [← e5]; unfold Zr; simp [hg, hb]
            clear e5
            have cX0 : w0.cell? ⟨w.heap.size, 0, none⟩ = some (.int .i64 r) := X0.out.cell 0
            have cX1 : w0.cell? ⟨w.heap.size, 1, none⟩ = some (.int .i64 g) := X0.out.cell 1
            have cX2 : w0.cell? ⟨w.heap.size, 2, none⟩ = some (.int .i64 b) := X0.out.cell 2
            have cX3 : w0.cell? ⟨w.heap.size, 3, none⟩ = some (.int .i64 20) := X0.out.cell 3
            have cX4 : w0.cell? ⟨w.heap.size, 4, none⟩ = some (.bool false) := X0.out.cell 4
            go_wp2_with fail
            go_ret
            rw [HV.out]
            exact ⟨by simp, B0.out⟩
    · have n20 := ht
      clear ht
      by_cases ht : t = 40
      · subst ht
        obtain rfl : t2 = true := by rw [← H2.out]; decide
        by_cases hg : g = 0
        · subst hg
          by_cases hb : b = 0
          · subst hb
            cases p with
            | true =>
              have e5 := H5.out
              obtain rfl : t5 = true := by rw [← e5]; unfold Zr; simp []
              clear e5
              have cX0 : w0.cell? ⟨w.heap.size, 0, none⟩ = some (.int .i64 r) := X0.out.cell 0
              have cX1 : w0.cell? ⟨w.heap.size, 1, none⟩ = some (.int .i64 0) := X0.out.cell 1
              have cX2 : w0.cell? ⟨w.heap.size, 2, none⟩ = some (.int .i64 0) := X0.out.cell 2
              have cX3 : w0.cell? ⟨w.heap.size, 3, none⟩ = some (.int .i64 40) := X0.out.cell 3
              have cX4 : w0.cell? ⟨w.heap.size, 4, none⟩ = some (.bool true) := X0.out.cell 4
              go_wp2_with fail
              clear cX0 cX1 cX2 cX3 cX4
              (with_reducible refine (airs.specVr r _).mono ?_)
              rintro e w1 hp
              obtain ⟨rfl, hb⟩ := airs.Bit.parts H1.out hp
              clear hp
              have SS1 := Lib.hid hb.size
              have B1 := Lib.hid (B0.out.trans (hb.mono B0.out.size))
              have X1 := Lib.hid (X0.out.below hb)
              clear hb  B0 X0
              cases t1 with
              | true =>
                have cX1 : w1.cell? ⟨w.heap.size, 1, none⟩ = some (.int .i64 0) := X1.out.cell 1
                have cX3 : w1.cell? ⟨w.heap.size, 3, none⟩ = some (.int .i64 40) := X1.out.cell 3
                go_wp2_with fail
                clear cX1 cX3
                (with_reducible refine (l1R 0 0 40 t3 _ H3.out).mono ?_)
                rintro e wq ⟨rfl, rfl⟩
                cases t3 with
                | true =>
                  have cX2 : w1.cell? ⟨w.heap.size, 2, none⟩ = some (.int .i64 0) := X1.out.cell 2
                  go_wp2_with fail
                  clear cX2
                  (with_reducible refine (l1R 0 0 1 t4 _ H4.out).mono ?_)
                  rintro e wq ⟨rfl, rfl⟩
                  cases t4 with
                  | true =>
                    go_wp2_with fail
                    go_ret
                    rw [HV.out]
                    exact ⟨by simp, B1.out⟩
                  | false =>
                    go_wp2_with fail
                    go_ret
                    rw [HV.out]
                    exact ⟨by simp, B1.out⟩
                | false =>
                  go_wp2_with fail
                  go_ret
                  rw [HV.out]
                  exact ⟨by simp, B1.out⟩
              | false =>
                go_wp2_with fail
                go_ret
                rw [HV.out]
                exact ⟨by simp, B1.out⟩
            | false =>
              have e5 := H5.out
              obtain rfl : t5 = true := by rw [← e5]; unfold Zr; simp []
              clear e5
              have cX0 : w0.cell? ⟨w.heap.size, 0, none⟩ = some (.int .i64 r) := X0.out.cell 0
              have cX1 : w0.cell? ⟨w.heap.size, 1, none⟩ = some (.int .i64 0) := X0.out.cell 1
              have cX2 : w0.cell? ⟨w.heap.size, 2, none⟩ = some (.int .i64 0) := X0.out.cell 2
              have cX3 : w0.cell? ⟨w.heap.size, 3, none⟩ = some (.int .i64 40) := X0.out.cell 3
              have cX4 : w0.cell? ⟨w.heap.size, 4, none⟩ = some (.bool false) := X0.out.cell 4
              go_wp2_with fail
              clear cX0 cX1 cX2 cX3 cX4
              (with_reducible refine (airs.specVr r _).mono ?_)
              rintro e w1 hp
              obtain ⟨rfl, hb⟩ := airs.Bit.parts H1.out hp
              clear hp
              have SS1 := Lib.hid hb.size
              have B1 := Lib.hid (B0.out.trans (hb.mono B0.out.size))
              have X1 := Lib.hid (X0.out.below hb)
              clear hb  B0 X0
              cases t1 with
              | true =>
                have cX1 : w1.cell? ⟨w.heap.size, 1, none⟩ = some (.int .i64 0) := X1.out.cell 1
                have cX3 : w1.cell? ⟨w.heap.size, 3, none⟩ = some (.int .i64 40) := X1.out.cell 3
                go_wp2_with fail
                clear cX1 cX3
                (with_reducible refine (l1R 0 0 40 t3 _ H3.out).mono ?_)
                rintro e wq ⟨rfl, rfl⟩
                cases t3 with
                | true =>
                  have cX2 : w1.cell? ⟨w.heap.size, 2, none⟩ = some (.int .i64 0) := X1.out.cell 2
                  go_wp2_with fail
                  clear cX2
                  (with_reducible refine (l1R 0 0 1 t4 _ H4.out).mono ?_)
                  rintro e wq ⟨rfl, rfl⟩
                  cases t4 with
                  | true =>
                    go_wp2_with fail
                    go_ret
                    rw [HV.out]
                    exact ⟨by simp, B1.out⟩
                  | false =>
                    go_wp2_with fail
                    go_ret
                    rw [HV.out]
                    exact ⟨by simp, B1.out⟩
                | false =>
                  go_wp2_with fail
                  go_ret
                  rw [HV.out]
                  exact ⟨by simp, B1.out⟩
              | false =>
                go_wp2_with fail
                go_ret
                rw [HV.out]
                exact ⟨by simp, B1.out⟩
          · cases p with
            | true =>
              have e5 := H5.out
              obtain rfl : t5 = false := by rw [← e5]; unfold Zr; simp [hb]
              clear e5
              have cX0 : w0.cell? ⟨w.heap.size, 0, none⟩ = some (.int .i64 r) := X0.out.cell 0
              have cX1 : w0.cell? ⟨w.heap.size, 1, none⟩ = some (.int .i64 0) := X0.out.cell 1
              have cX2 : w0.cell? ⟨w.heap.size, 2, none⟩ = some (.int .i64 b) := X0.out.cell 2
              have cX3 : w0.cell? ⟨w.heap.size, 3, none⟩ = some (.int .i64 40) := X0.out.cell 3
              have cX4 : w0.cell? ⟨w.heap.size, 4, none⟩ = some (.bool true) := X0.out.cell 4
              go_wp2_with fail
              go_ret
              rw [HV.out]
              exact ⟨by simp, B0.out⟩
            | false =>
              have e5 := H5.out
              obtain rfl : t5 = true := by rw [← e5]; unfold Zr; simp [hb]
              clear e5
              have cX0 : w0.cell? ⟨w.heap.size, 0, none⟩ = some (.int .i64 r) := X0.out.cell 0
              have cX1 : w0.cell? ⟨w.heap.size, 1, none⟩ = some (.int .i64 0) := X0.out.cell 1
              have cX2 : w0.cell? ⟨w.heap.size, 2, none⟩ = some (.int .i64 b) := X0.out.cell 2
              have cX3 : w0.cell? ⟨w.heap.size, 3, none⟩ = some (.int .i64 40) := X0.out.cell 3
              have cX4 : w0.cell? ⟨w.heap.size, 4, none⟩ = some (.bool false) := X0.out.cell 4
              go_wp2_with fail
              clear cX0 cX1 cX2 cX3 cX4
              (with_reducible refine (airs.specVr r _).mono ?_)
              rintro e w1 hp
              obtain ⟨rfl, hb⟩ := airs.Bit.parts H1.out hp
              clear hp
              have SS1 := Lib.hid hb.size
              have B1 := Lib.hid (B0.out.trans (hb.mono B0.out.size))
              have X1 := Lib.hid (X0.out.below hb)
              clear hb  B0 X0
              cases t1 with
              | true =>
                have cX1 : w1.cell? ⟨w.heap.size, 1, none⟩ = some (.int .i64 0) := X1.out.cell 1
                have cX3 : w1.cell? ⟨w.heap.size, 3, none⟩ = some (.int .i64 40) := X1.out.cell 3
                go_wp2_with fail
                clear cX1 cX3
                (with_reducible refine (l1R 0 0 40 t3 _ H3.out).mono ?_)
                rintro e wq ⟨rfl, rfl⟩
                cases t3 with
                | true =>
                  have cX2 : w1.cell? ⟨w.heap.size, 2, none⟩ = some (.int .i64 b) := X1.out.cell 2
                  go_wp2_with fail
                  clear cX2
                  (with_reducible refine (l1R b 0 1 t4 _ H4.out).mono ?_)
                  rintro e wq ⟨rfl, rfl⟩
                  cases t4 with
                  | true =>
                    go_wp2_with fail
                    go_ret
                    rw [HV.out]
                    exact ⟨by simp, B1.out⟩
                  | false =>
                    go_wp2_with fail
                    go_ret
                    rw [HV.out]
                    exact ⟨by simp, B1.out⟩
                | false =>
                  go_wp2_with fail
                  go_ret
                  rw [HV.out]
                  exact ⟨by simp, B1.out⟩
              | false =>
                go_wp2_with fail
                go_ret
                rw [HV.out]
                exact ⟨by simp, B1.out⟩
        · by_cases hb : b = 0
          · subst hb
            cases p with
            | true =>
              have e5 := H5.out
              obtain rfl : t5 = false := by rw [← e5]; unfold Zr; simp [hg]
              clear e5
              have cX0 : w0.cell? ⟨w.heap.size, 0, none⟩ = some (.int .i64 r) := X0.out.cell 0
              have cX1 : w0.cell? ⟨w.heap.size, 1, none⟩ = some (.int .i64 g) := X0.out.cell 1
              have cX2 : w0.cell? ⟨w.heap.size, 2, none⟩ = some (.int .i64 0) := X0.out.cell 2
              have cX3 : w0.cell? ⟨w.heap.size, 3, none⟩ = some (.int .i64 40) := X0.out.cell 3
              have cX4 : w0.cell? ⟨w.heap.size, 4, none⟩ = some (.bool true) := X0.out.cell 4
              go_wp2_with fail
              go_ret
              rw [HV.out]
              exact ⟨by simp, B0.out⟩
            | false =>
              have e5 := H5.out
              obtain rfl : t5 = true := by rw [← e5]; unfold Zr; simp [hg]
              clear e5
              have cX0 : w0.cell? ⟨w.heap.size, 0, none⟩ = some (.int .i64 r) := X0.out.cell 0
              have cX1 : w0.cell? ⟨w.heap.size, 1, none⟩ = some (.int .i64 g) := X0.out.cell 1
              have cX2 : w0.cell? ⟨w.heap.size, 2, none⟩ = some (.int .i64 0) := X0.out.cell 2
              have cX3 : w0.cell? ⟨w.heap.size, 3, none⟩ = some (.int .i64 40) := X0.out.cell 3
              have cX4 : w0.cell? ⟨w.heap.size, 4, none⟩ = some (.bool false) := X0.out.cell 4
              go_wp2_with fail
              clear cX0 cX1 cX2 cX3 cX4
              (with_reducible refine (airs.specVr r _).mono ?_)
              rintro e w1 hp
              obtain ⟨rfl, hb⟩ := airs.Bit.parts H1.out hp
              clear hp
              have SS1 := Lib.hid hb.size
              have B1 := Lib.hid (B0.out.trans (hb.mono B0.out.size))
              have X1 := Lib.hid (X0.out.below hb)
              clear hb  B0 X0
              cases t1 with
              | true =>
                have cX1 : w1.cell? ⟨w.heap.size, 1, none⟩ = some (.int .i64 g) := X1.out.cell 1
                have cX3 : w1.cell? ⟨w.heap.size, 3, none⟩ = some (.int .i64 40) := X1.out.cell 3
                go_wp2_with fail
                clear cX1 cX3
                (with_reducible refine (l1R g 0 40 t3 _ H3.out).mono ?_)
                rintro e wq ⟨rfl, rfl⟩
                cases t3 with
                | true =>
                  have cX2 : w1.cell? ⟨w.heap.size, 2, none⟩ = some (.int .i64 0) := X1.out.cell 2
                  go_wp2_with fail
                  clear cX2
                  (with_reducible refine (l1R 0 0 1 t4 _ H4.out).mono ?_)
                  rintro e wq ⟨rfl, rfl⟩
                  cases t4 with
                  | true =>
                    go_wp2_with fail
                    go_ret
                    rw [HV.out]
                    exact ⟨by simp, B1.out⟩
                  | false =>
                    go_wp2_with fail
                    go_ret
                    rw [HV.out]
                    exact ⟨by simp, B1.out⟩
                | false =>
                  go_wp2_with fail
                  go_ret
                  rw [HV.out]
                  exact ⟨by simp, B1.out⟩
              | false =>
                go_wp2_with fail
                go_ret
                rw [HV.out]
                exact ⟨by simp, B1.out⟩
          · cases p with
            | true =>
              have e5 := H5.out
              obtain rfl : t5 = false := by rw [← e5]; unfold Zr; simp [hg, hb]
              clear e5
              have cX0 : w0.cell? ⟨w.heap.size, 0, none⟩ = some (.int .i64 r) := X0.out.cell 0
              have cX1 : w0.cell? ⟨w.heap.size, 1, none⟩ = some (.int .i64 g) := X0.out.cell 1
              have cX2 : w0.cell? ⟨w.heap.size, 2, none⟩ = some (.int .i64 b) := X0.out.cell 2
              have cX3 : w0.cell? ⟨w.heap.size, 3, none⟩ = some (.int .i64 40) := X0.out.cell 3
              have cX4 : w0.cell? ⟨w.heap.size, 4, none⟩ = some (.bool true) := X0.out.cell 4
              go_wp2_with fail
              go_ret
              rw [HV.out]
              exact ⟨by simp, B0.out⟩
            | false =>
              have e5 := H5.out
              obtain rfl : t5 = false := by rw [← e5]; unfold Zr; simp [hg, hb]
              clear e5
              have cX0 : w0.cell? ⟨w.heap.size, 0, none⟩ = some (.int .i64 r) := X0.out.cell 0
              have cX1 : w0.cell? ⟨w.heap.size, 1, none⟩ = some (.int .i64 g) := X0.out.cell 1
              have cX2 : w0.cell? ⟨w.heap.size, 2, none⟩ = some (.int .i64 b) := X0.out.cell 2
              have cX3 : w0.cell? ⟨w.heap.size, 3, none⟩ = some (.int .i64 40) := X0.out.cell 3
              have cX4 : w0.cell? ⟨w.heap.size, 4, none⟩ = some (.bool false) := X0.out.cell 4
              go_wp2_with fail
              go_ret
              rw [HV.out]
              exact ⟨by simp, B0.out⟩
      · have n40 := ht
        clear ht
        obtain rfl : t2 = false := by rw [← H2.out]; unfold Vt; simp [n10, n20, n40]
        have b10 : (t != 10) = true := by simpa using n10
        have b20 : (t != 20) = true := by simpa using n20
        have b40 : (t != 40) = true := by simpa using n40
        have cX3 : w0.cell? ⟨w.heap.size, 3, none⟩ = some (.int .i64 t) := X0.out.cell 3
        go_wp2_with fail
        go_ret
        rw [HV.out]
        exact ⟨by simp, B0.out⟩
end Go.Proofs.Ytejjafmppihneaa.ra
