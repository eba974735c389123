/- Beacons: what is valid, slots, counts, deliveries, the harness, program and specification. Condition: none. -/
import Derived.Test.YtalfihfielgmpaaBcm
import Derived.Test.YtalfihfielgmpaaBox
import Derived.Test.YtalfihfielgmpaaStv
import Derived.Test.YtalfihfielgmpaaHash
import Derived.Deep.Cut
namespace Go.Proofs.Ytalfihfielgmpaa.be
open Go.RowKit sl harn rng bx stw bcm
set_option linter.unusedVariables false
set_option linter.unusedSimpArgs false

theorem szB : (Try.prog.info? 25).map (·.size) = some 6 := by kernel_rfl
theorem szLB : (Try.prog.info? 36).map (·.size) = some 6 := by kernel_rfl
theorem oneB (f s c d : Int) (g : Bool) (t : Int) : (#[.int .i64 f, .int .i64 s, .int .i64 c, .int .i64 d, .bool g, .int .i64 t] : Array Value).all (·.oneCell') = true :=
  all_oneCell_toArray (cs := [.int .i64 f, .int .i64 s, .int .i64 c, .int .i64 d, .bool g, .int .i64 t]) (by intro v hv; simp only [List.mem_cons, List.not_mem_nil, or_false] at hv; rcases hv with rfl | rfl | rfl | rfl | rfl | rfl <;> rfl)
/-- A beacon's cells. -/
abbrev bvs (q : Bc) : Array Value := #[.int .i64 q.f, .int .i64 q.s, .int .i64 q.c, .int .i64 q.d, .bool q.g, .int .i64 q.t]
/-- What a function hands back that is a beacon; a beacon and a bool. -/
def CPost (q : Bc) (w : World) (e : Ending) (w' : World) : Prop := e = .returned (.agg (bvs q)) ∧ Below w.heap.size w w'
def DPost (q : Bc × Bool) (w : World) (e : Ending) (w' : World) : Prop := e = .returned (.tuple #[.agg (bvs q.1), .bool q.2]) ∧ Below w.heap.size w w'
theorem c_parts {q : Bc} {f s c d : Int} {g : Bool} {t : Int} (ht : q = ⟨f, s, c, d, g, t⟩) {w w' : World} {e : Ending} (hp : CPost q w e w') : e = .returned (.agg #[.int .i64 f, .int .i64 s, .int .i64 c, .int .i64 d, .bool g, .int .i64 t]) ∧ Below w.heap.size w w' := by subst ht; exact hp
theorem d_parts {q : Bc × Bool} {f s c d : Int} {g : Bool} {t : Int} {v : Bool} (ht : q.1 = ⟨f, s, c, d, g, t⟩) (hv : q.2 = v) {w w' : World} {e : Ending} (hp : DPost q w e w') : e = .returned (.tuple #[.agg #[.int .i64 f, .int .i64 s, .int .i64 c, .int .i64 d, .bool g, .int .i64 t], .bool v]) ∧ Below w.heap.size w w' := by obtain ⟨q1, q2⟩ := q; dsimp only at ht hv; subst ht hv; exact hp
theorem dec_ {p q : Prop} [Decidable p] [Decidable q] {v : Bool} (h : decide p = v) (e : q ↔ p) : decide q = v := by rw [← h, decide_eq_decide]; exact e
set_option maxRecDepth 100000 in
set_option maxHeartbeats 4000000 in
theorem isSt (x : Int) (v : Bool) (w : World) (h : decide (St x) = v) :
    Calls Try.prog 50 #[.int .i64 x] w (fun e w' => e = .returned (.bool v) ∧ w = w') := by
  have H := Lib.hid (show decide (0 ≤ x ∧ x ≤ 15) = v from dec_ h Iff.rfl)
  clear h
  go_enter Try.func50, Try.ntmps50
  go_wp2_with fail
  (with_reducible refine (inR x 0 15 v _ H.out).mono ?_)
  rintro e wq ⟨rfl, rfl⟩
  go_wp2_with fail
  go_ret
  exact ⟨rfl, rfl⟩
set_option maxRecDepth 100000 in
set_option maxHeartbeats 4000000 in
theorem isPd (x : Int) (v : Bool) (w : World) (h : decide (Pd x) = v) :
    Calls Try.prog 57 #[.int .i64 x] w (fun e w' => e = .returned (.bool v) ∧ w = w') := by
  have H := Lib.hid (show decide (1 ≤ x ∧ x ≤ 8) = v from dec_ h Iff.rfl)
  clear h
  go_enter Try.func57, Try.ntmps57
  go_wp2_with fail
  (with_reducible refine (inR x 1 8 v _ H.out).mono ?_)
  rintro e wq ⟨rfl, rfl⟩
  go_wp2_with fail
  go_ret
  exact ⟨rfl, rfl⟩
set_option maxRecDepth 100000 in
set_option maxHeartbeats 4000000 in
theorem isSl (x : Int) (v : Bool) (w : World) (h : decide (Sl x) = v) :
    Calls Try.prog 55 #[.int .i64 x] w (fun e w' => e = .returned (.bool v) ∧ w = w') := by
  by_cases hr : 0 ≤ x ∧ x ≤ 1000000000000
  · by_cases hm : x % 10 = 0
    · have HR := Lib.hid (show decide (0 ≤ x ∧ x ≤ 1000000000000) = true from decide_eq_true hr)
      obtain rfl : v = true := by rw [← h]; unfold Sl; exact decide_eq_true ⟨hr, hm⟩
      clear h
      obtain ⟨h0, h1⟩ := hr
      go_enter Try.func55, Try.ntmps55
      go_wp2_with fail
      (with_reducible refine (inR x 0 1000000000000 true _ HR.out).mono ?_)
      rintro e wq ⟨rfl, rfl⟩
      go_wp2_with fail
      go_ret
      exact ⟨rfl, rfl⟩
    · have HR := Lib.hid (show decide (0 ≤ x ∧ x ≤ 1000000000000) = true from decide_eq_true hr)
      obtain rfl : v = false := by rw [← h]; unfold Sl; exact decide_eq_false fun q => hm q.2
      clear h
      obtain ⟨h0, h1⟩ := hr
      have hm2 : (x % 10 == 0) = false := by simpa using hm
      go_enter Try.func55, Try.ntmps55
      go_wp2_with fail
      (with_reducible refine (inR x 0 1000000000000 true _ HR.out).mono ?_)
      rintro e wq ⟨rfl, rfl⟩
      go_wp2_with fail
      go_ret
      exact ⟨rfl, rfl⟩
  · have HR := Lib.hid (show decide (0 ≤ x ∧ x ≤ 1000000000000) = false from decide_eq_false hr)
    obtain rfl : v = false := by rw [← h]; unfold Sl; exact decide_eq_false fun q => hr q.1
    clear h
    clear hr
    go_enter Try.func55, Try.ntmps55
    go_wp2_with fail
    (with_reducible refine (inR x 0 1000000000000 false _ HR.out).mono ?_)
    rintro e wq ⟨rfl, rfl⟩
    go_wp2_with fail
    go_ret
    exact ⟨rfl, rfl⟩
set_option maxRecDepth 100000 in
set_option maxHeartbeats 4000000 in
theorem implVb (f s c d : Int) (g : Bool) (t : Int) (w : World) :
    Calls Try.prog 25 #[.agg #[.int .i64 f, .int .i64 s, .int .i64 c, .int .i64 d, .bool g, .int .i64 t]] w (BPost (vb ⟨f, s, c, d, g, t⟩) w) := by
  obtain ⟨t1, h1⟩ : ∃ x, decide (St f) = x := ⟨_, rfl⟩
  obtain ⟨t2, h2⟩ : ∃ x, decide (Sl s) = x := ⟨_, rfl⟩
  obtain ⟨t3, h3⟩ : ∃ x, decide (Pd d) = x := ⟨_, rfl⟩
  obtain ⟨t4, h4⟩ : ∃ x, decide (Ct c d) = x := ⟨_, rfl⟩
  obtain ⟨t5, h5⟩ : ∃ x, decide (Ti t) = x := ⟨_, rfl⟩
  obtain ⟨t6, h6⟩ : ∃ x, decide (Gr g c) = x := ⟨_, rfl⟩
  have HV := Lib.hid (vb_eq h1 h2 h3 h4 h5 h6)
  have H1 := Lib.hid h1
  have H2 := Lib.hid h2
  have H3 := Lib.hid h3
  have H4 := Lib.hid h4
  have H5 := Lib.hid h5
  have H6 := Lib.hid h6
  clear h1 h2 h3 h4 h5 h6
  go_enter Try.func25, Try.ntmps25
  go_wp2_with fail
  obtain ⟨w0, hW⟩ : ∃ w0, w.alloc (.cells #[.int .i64 f, .int .i64 s, .int .i64 c, .int .i64 d, .bool g, .int .i64 t] 25) = w0 := ⟨_, rfl⟩
  rw [hW]
  have B0 := Lib.hid (show Below w.heap.size w w0 by rw [← hW]; exact (Below.refl _ _).alloc (by simp <;> omega) _)
  have X0 := Lib.hid (show Bx 25 w0 (w.heap.size) #[.int .i64 f, .int .i64 s, .int .i64 c, .int .i64 d, .bool g, .int .i64 t] by
      rw [← hW]
      have hh := Bx.made 25 w #[.int .i64 f, .int .i64 s, .int .i64 c, .int .i64 d, .bool g, .int .i64 t]
      exact hh)
  clear hW
  have LTX := Lib.hid X0.out.lt
  have cX0 : w0.cell? ⟨w.heap.size, 0, none⟩ = some (.int .i64 f) := X0.out.cell 0
  go_wp2_with fail
  clear cX0
  (with_reducible refine (isSt f t1 _ H1.out).mono ?_)
  rintro e wq ⟨rfl, rfl⟩
  cases t1 with
  | true =>
    have cX1 : w0.cell? ⟨w.heap.size, 1, none⟩ = some (.int .i64 s) := X0.out.cell 1
    go_wp2_with fail
    clear cX1
    (with_reducible refine (isSl s t2 _ H2.out).mono ?_)
    rintro e wq ⟨rfl, rfl⟩
    cases t2 with
    | true =>
      have cX5 : w0.cell? ⟨w.heap.size, 5, none⟩ = some (.int .i64 t) := X0.out.cell 5
      go_wp2_with fail
      clear cX5
      (with_reducible refine (inR t 0 65535 t5 _ (dec_ H5.out Iff.rfl)).mono ?_)
      rintro e wq ⟨rfl, rfl⟩
      cases t5 with
      | true =>
        have cX3 : w0.cell? ⟨w.heap.size, 3, none⟩ = some (.int .i64 d) := X0.out.cell 3
        go_wp2_with fail
        clear cX3
        (with_reducible refine (isPd d t3 _ H3.out).mono ?_)
        rintro e wq ⟨rfl, rfl⟩
        cases t3 with
        | true =>
          have m1 : IntKind.i64.wrap (d - 1) = d - 1 := IntWalk.i64_in _ (by have h3 : Pd d := of_decide_eq_true H3.out; unfold Pd at h3; omega)
          have cX2 : w0.cell? ⟨w.heap.size, 2, none⟩ = some (.int .i64 c) := X0.out.cell 2
          have cX3 : w0.cell? ⟨w.heap.size, 3, none⟩ = some (.int .i64 d) := X0.out.cell 3
          go_wp2_with fail
          clear cX2 cX3
          (with_reducible refine (inR c 0 (d - 1) t4 _ (dec_ H4.out Iff.rfl)).mono ?_)
          rintro e wq ⟨rfl, rfl⟩
          cases t4 with
          | true =>
            by_cases hc : c = 0
            · subst hc
              cases g with
              | true =>
                obtain rfl : t6 = true := by rw [← H6.out]; exact decide_eq_true fun _ => rfl
                have cX2 : w0.cell? ⟨w.heap.size, 2, none⟩ = some (.int .i64 0) := X0.out.cell 2
                have cX4 : w0.cell? ⟨w.heap.size, 4, none⟩ = some (.bool true) := X0.out.cell 4
                go_wp2_with fail
                go_ret
                rw [HV.out]
                exact ⟨by simp, B0.out⟩
              | false =>
                obtain rfl : t6 = true := by rw [← H6.out]; exact decide_eq_true fun _ => rfl
                have cX2 : w0.cell? ⟨w.heap.size, 2, none⟩ = some (.int .i64 0) := X0.out.cell 2
                have cX4 : w0.cell? ⟨w.heap.size, 4, none⟩ = some (.bool false) := X0.out.cell 4
                go_wp2_with fail
                go_ret
                rw [HV.out]
                exact ⟨by simp, B0.out⟩
            · cases g with
              | true =>
                obtain rfl : t6 = false := by rw [← H6.out]; exact decide_eq_false fun q => hc (q rfl)
                have hc1 : (c == 0) = false := by simpa using hc
                clear hc
                have cX2 : w0.cell? ⟨w.heap.size, 2, none⟩ = some (.int .i64 c) := X0.out.cell 2
                have cX4 : w0.cell? ⟨w.heap.size, 4, none⟩ = some (.bool true) := X0.out.cell 4
                go_wp2_with fail
                go_ret
                rw [HV.out]
                exact ⟨by simp, B0.out⟩
              | false =>
                obtain rfl : t6 = true := by rw [← H6.out]; exact decide_eq_true (fun q => by cases q)
                have hc1 : (c == 0) = false := by simpa using hc
                clear hc
                have cX2 : w0.cell? ⟨w.heap.size, 2, none⟩ = some (.int .i64 c) := X0.out.cell 2
                have cX4 : w0.cell? ⟨w.heap.size, 4, none⟩ = some (.bool false) := X0.out.cell 4
                go_wp2_with fail
                go_ret
                rw [HV.out]
                exact ⟨by simp, B0.out⟩
          | false =>
            go_wp2_with fail
            go_ret
            rw [HV.out]
            exact ⟨by simp, B0.out⟩
        | false =>
          go_wp2_with fail
          go_ret
          rw [HV.out]
          exact ⟨by simp, B0.out⟩
      | false =>
        go_wp2_with fail
        go_ret
        rw [HV.out]
        exact ⟨by simp, B0.out⟩
    | false =>
      go_wp2_with fail
      go_ret
      rw [HV.out]
      exact ⟨by simp, B0.out⟩
  | false =>
    go_wp2_with fail
    go_ret
    rw [HV.out]
    exact ⟨by simp, B0.out⟩
set_option maxRecDepth 100000 in
set_option maxHeartbeats 4000000 in
theorem specVb (f s c d : Int) (g : Bool) (t : Int) (w : World) :
    Calls Try.prog 20 #[.agg #[.int .i64 f, .int .i64 s, .int .i64 c, .int .i64 d, .bool g, .int .i64 t]] w (BPost (vb ⟨f, s, c, d, g, t⟩) w) := by
  obtain ⟨t1, h1⟩ : ∃ x, decide (St f) = x := ⟨_, rfl⟩
  obtain ⟨t2, h2⟩ : ∃ x, decide (Sl s) = x := ⟨_, rfl⟩
  obtain ⟨t3, h3⟩ : ∃ x, decide (Pd d) = x := ⟨_, rfl⟩
  obtain ⟨t4, h4⟩ : ∃ x, decide (Ct c d) = x := ⟨_, rfl⟩
  obtain ⟨t5, h5⟩ : ∃ x, decide (Ti t) = x := ⟨_, rfl⟩
  obtain ⟨t6, h6⟩ : ∃ x, decide (Gr g c) = x := ⟨_, rfl⟩
  have HV := Lib.hid (vb_eq h1 h2 h3 h4 h5 h6)
  have H1 := Lib.hid h1
  have H2 := Lib.hid h2
  have H3 := Lib.hid h3
  have H4 := Lib.hid h4
  have H5 := Lib.hid h5
  have H6 := Lib.hid h6
  clear h1 h2 h3 h4 h5 h6
  go_enter Try.func20, Try.ntmps20
  go_wp2_with fail
  obtain ⟨w0, hW⟩ : ∃ w0, w.alloc (.cells #[.int .i64 f, .int .i64 s, .int .i64 c, .int .i64 d, .bool g, .int .i64 t] 25) = w0 := ⟨_, rfl⟩
  rw [hW]
  have B0 := Lib.hid (show Below w.heap.size w w0 by rw [← hW]; exact (Below.refl _ _).alloc (by simp <;> omega) _)
  have X0 := Lib.hid (show Bx 25 w0 (w.heap.size) #[.int .i64 f, .int .i64 s, .int .i64 c, .int .i64 d, .bool g, .int .i64 t] by
      rw [← hW]
      have hh := Bx.made 25 w #[.int .i64 f, .int .i64 s, .int .i64 c, .int .i64 d, .bool g, .int .i64 t]
      exact hh)
  clear hW
  have LTX := Lib.hid X0.out.lt
  have cX0 : w0.cell? ⟨w.heap.size, 0, none⟩ = some (.int .i64 f) := X0.out.cell 0
  go_wp2_with fail
  clear cX0
  (with_reducible refine (l1R f 0 15 t1 _ (dec_ H1.out Iff.rfl)).mono ?_)
  rintro e wq ⟨rfl, rfl⟩
  cases t1 with
  | true =>
    obtain ⟨r, hr⟩ : ∃ x, decide (0 ≤ s ∧ s ≤ 1000000000000) = x := ⟨_, rfl⟩
    have HR := Lib.hid hr
    clear hr
    have cX1 : w0.cell? ⟨w.heap.size, 1, none⟩ = some (.int .i64 s) := X0.out.cell 1
    go_wp2_with fail
    clear cX1
    (with_reducible refine (l1R s 0 1000000000000 r _ HR.out).mono ?_)
    rintro e wq ⟨rfl, rfl⟩
    cases r with
    | true =>
      have hs := of_decide_eq_true HR.out
      have hs0 := hs.1
      have hs1 := hs.2
      by_cases hm : s % 10 = 0
      · obtain rfl : t2 = true := by rw [← H2.out]; exact decide_eq_true ⟨hs, hm⟩
        have cX1 : w0.cell? ⟨w.heap.size, 1, none⟩ = some (.int .i64 s) := X0.out.cell 1
        have cX3 : w0.cell? ⟨w.heap.size, 3, none⟩ = some (.int .i64 d) := X0.out.cell 3
        go_wp2_with fail
        clear cX1 cX3
        (with_reducible refine (l1R d 1 8 t3 _ (dec_ H3.out Iff.rfl)).mono ?_)
        rintro e wq ⟨rfl, rfl⟩
        cases t3 with
        | true =>
          have m1 : IntKind.i64.wrap (d - 1) = d - 1 := IntWalk.i64_in _ (by have h3 : Pd d := of_decide_eq_true H3.out; unfold Pd at h3; omega)
          have cX2 : w0.cell? ⟨w.heap.size, 2, none⟩ = some (.int .i64 c) := X0.out.cell 2
          have cX3 : w0.cell? ⟨w.heap.size, 3, none⟩ = some (.int .i64 d) := X0.out.cell 3
          go_wp2_with fail
          clear cX2 cX3
          (with_reducible refine (l1R c 0 (d - 1) t4 _ (dec_ H4.out Iff.rfl)).mono ?_)
          rintro e wq ⟨rfl, rfl⟩
          cases t4 with
          | true =>
            have cX5 : w0.cell? ⟨w.heap.size, 5, none⟩ = some (.int .i64 t) := X0.out.cell 5
            go_wp2_with fail
            clear cX5
            (with_reducible refine (l1R t 0 65535 t5 _ (dec_ H5.out Iff.rfl)).mono ?_)
            rintro e wq ⟨rfl, rfl⟩
            cases t5 with
            | true =>
              by_cases hc : c = 0
              · subst hc
                cases g with
                | true =>
                  obtain rfl : t6 = true := by rw [← H6.out]; exact decide_eq_true fun _ => rfl
                  have cX2 : w0.cell? ⟨w.heap.size, 2, none⟩ = some (.int .i64 0) := X0.out.cell 2
                  have cX4 : w0.cell? ⟨w.heap.size, 4, none⟩ = some (.bool true) := X0.out.cell 4
                  go_wp2_with fail
                  go_ret
                  rw [HV.out]
                  exact ⟨by simp, B0.out⟩
                | false =>
                  obtain rfl : t6 = true := by rw [← H6.out]; exact decide_eq_true fun _ => rfl
                  have cX2 : w0.cell? ⟨w.heap.size, 2, none⟩ = some (.int .i64 0) := X0.out.cell 2
                  have cX4 : w0.cell? ⟨w.heap.size, 4, none⟩ = some (.bool false) := X0.out.cell 4
                  go_wp2_with fail
                  go_ret
                  rw [HV.out]
                  exact ⟨by simp, B0.out⟩
              · cases g with
                | true =>
                  obtain rfl : t6 = false := by rw [← H6.out]; exact decide_eq_false fun q => hc (q rfl)
                  have hc1 : (c == 0) = false := by simpa using hc
                  clear hc
                  have cX2 : w0.cell? ⟨w.heap.size, 2, none⟩ = some (.int .i64 c) := X0.out.cell 2
                  have cX4 : w0.cell? ⟨w.heap.size, 4, none⟩ = some (.bool true) := X0.out.cell 4
                  go_wp2_with fail
                  go_ret
                  rw [HV.out]
                  exact ⟨by simp, B0.out⟩
                | false =>
                  obtain rfl : t6 = true := by rw [← H6.out]; exact decide_eq_true (fun q => by cases q)
                  have hc1 : (c == 0) = false := by simpa using hc
                  clear hc
                  have cX2 : w0.cell? ⟨w.heap.size, 2, none⟩ = some (.int .i64 c) := X0.out.cell 2
                  have cX4 : w0.cell? ⟨w.heap.size, 4, none⟩ = some (.bool false) := X0.out.cell 4
                  go_wp2_with fail
                  go_ret
                  rw [HV.out]
                  exact ⟨by simp, B0.out⟩
            | false =>
              go_wp2_with fail
              go_ret
              rw [HV.out]
              exact ⟨by simp, B0.out⟩
          | false =>
            go_wp2_with fail
            go_ret
            rw [HV.out]
            exact ⟨by simp, B0.out⟩
        | false =>
          go_wp2_with fail
          go_ret
          rw [HV.out]
          exact ⟨by simp, B0.out⟩
      · obtain rfl : t2 = false := by rw [← H2.out]; exact decide_eq_false fun q => hm q.2
        have hm2 : (s % 10 == 0) = false := by simpa using hm
        clear hm
        have cX1 : w0.cell? ⟨w.heap.size, 1, none⟩ = some (.int .i64 s) := X0.out.cell 1
        go_wp2_with fail
        go_ret
        rw [HV.out]
        exact ⟨by simp, B0.out⟩
    | false =>
      obtain rfl : t2 = false := by rw [← H2.out]; exact decide_eq_false fun q => of_decide_eq_false HR.out q.1
      go_wp2_with fail
      go_ret
      rw [HV.out]
      exact ⟨by simp, B0.out⟩
  | false =>
    go_wp2_with fail
    go_ret
    rw [HV.out]
    exact ⟨by simp, B0.out⟩
set_option maxRecDepth 100000 in
set_option maxHeartbeats 4000000 in
theorem toB (f s c d : Int) (g : Bool) (t : Int) (w : World) :
    Calls Try.prog 24 #[.agg #[.int .i64 f, .int .i64 s, .int .i64 c, .int .i64 d, .bool g, .int .i64 t]] w (fun e w' => e = .returned (.agg #[.int .i64 f, .int .i64 s, .int .i64 c, .int .i64 d, .bool g, .int .i64 t]) ∧ Below w.heap.size w w') := by
  go_enter Try.func24, Try.ntmps24
  go_wp2
  (try simp only [Exit.inBlock, Exit.then])
  refine bodyPost_ret (v := .agg #[.int .i64 f, .int .i64 s, .int .i64 c, .int .i64 d, .bool g, .int .i64 t]) ?_ rfl ⟨rfl, ?_⟩
  · rw [results_cell1 rfl]
    go_simp
  · (repeat' (first | exact Below.refl _ _ | refine Below.setCell ?_ (by simp) _ | refine Below.alloc ?_ (by simp <;> omega) _))
set_option maxRecDepth 100000 in
set_option maxHeartbeats 4000000 in
theorem eqB_yes (f s c d : Int) (g : Bool) (t : Int) (w : World) :
    Calls Try.prog 31 #[.agg #[.int .i64 f, .int .i64 s, .int .i64 c, .int .i64 d, .bool g, .int .i64 t], .agg #[.int .i64 f, .int .i64 s, .int .i64 c, .int .i64 d, .bool g, .int .i64 t]] w (fun e w' => e = .returned (.bool true) ∧ Below w.heap.size w w') := by
  go_enter Try.func31, Try.ntmps31
  go_wp2
  go_ret
  exact ⟨rfl, below_box2 _ _ _⟩
def LBox (w : World) (p : Nat) (f s c d : Int) (g : Bool) (t : Int) : Prop := Bx 36 w p #[.int .i64 f, .int .i64 s, .int .i64 c, .int .i64 d, .bool g, .int .i64 t]
section
variable {w w' : World} {p : Nat} {f s c d : Int} {g : Bool} {t : Int}
theorem LBox.c0 (hx : LBox w p f s c d g t) : w.cell? ⟨p, 0, none⟩ = some (.int .i64 f) := Bx.cell hx 0
theorem LBox.c1 (hx : LBox w p f s c d g t) : w.cell? ⟨p, 1, none⟩ = some (.int .i64 s) := Bx.cell hx 1
theorem LBox.c2 (hx : LBox w p f s c d g t) : w.cell? ⟨p, 2, none⟩ = some (.int .i64 c) := Bx.cell hx 2
theorem LBox.c3 (hx : LBox w p f s c d g t) : w.cell? ⟨p, 3, none⟩ = some (.int .i64 d) := Bx.cell hx 3
theorem LBox.c4 (hx : LBox w p f s c d g t) : w.cell? ⟨p, 4, none⟩ = some (.bool g) := Bx.cell hx 4
theorem LBox.c5 (hx : LBox w p f s c d g t) : w.cell? ⟨p, 5, none⟩ = some (.int .i64 t) := Bx.cell hx 5
theorem LBox.lt (hx : LBox w p f s c d g t) : p < w.heap.size := Bx.lt hx
theorem LBox.below (hx : LBox w p f s c d g t) (hb : Below w.heap.size w w') : LBox w' p f s c d g t := Bx.below hx hb
theorem LBox.tch {lo hi : Nat} (hx : LBox w p f s c d g t) (hb : Tch lo hi w w') (hd : p < lo ∨ hi ≤ p) : LBox w' p f s c d g t := Bx.tch hx hb hd
theorem LBox.made (w : World) (f s c d : Int) (g : Bool) (t : Int) : LBox (w.alloc (.cells #[.int .i64 f, .int .i64 s, .int .i64 c, .int .i64 d, .bool g, .int .i64 t] 36)) w.heap.size f s c d g t := Bx.made _ w _
end
def Box (w : World) (p : Nat) (f s c d : Int) (g : Bool) (t : Int) : Prop := Bx 25 w p #[.int .i64 f, .int .i64 s, .int .i64 c, .int .i64 d, .bool g, .int .i64 t]
section
variable {w w' : World} {p : Nat} {f s c d : Int} {g : Bool} {t : Int}
theorem Box.c0 (hx : Box w p f s c d g t) : w.cell? ⟨p, 0, none⟩ = some (.int .i64 f) := Bx.cell hx 0
theorem Box.c1 (hx : Box w p f s c d g t) : w.cell? ⟨p, 1, none⟩ = some (.int .i64 s) := Bx.cell hx 1
theorem Box.c2 (hx : Box w p f s c d g t) : w.cell? ⟨p, 2, none⟩ = some (.int .i64 c) := Bx.cell hx 2
theorem Box.c3 (hx : Box w p f s c d g t) : w.cell? ⟨p, 3, none⟩ = some (.int .i64 d) := Bx.cell hx 3
theorem Box.c4 (hx : Box w p f s c d g t) : w.cell? ⟨p, 4, none⟩ = some (.bool g) := Bx.cell hx 4
theorem Box.c5 (hx : Box w p f s c d g t) : w.cell? ⟨p, 5, none⟩ = some (.int .i64 t) := Bx.cell hx 5
theorem Box.lt (hx : Box w p f s c d g t) : p < w.heap.size := Bx.lt hx
theorem Box.below (hx : Box w p f s c d g t) (hb : Below w.heap.size w w') : Box w' p f s c d g t := Bx.below hx hb
theorem Box.tch {lo hi : Nat} (hx : Box w p f s c d g t) (hb : Tch lo hi w w') (hd : p < lo ∨ hi ≤ p) : Box w' p f s c d g t := Bx.tch hx hb hd
theorem Box.made (w : World) (f s c d : Int) (g : Bool) (t : Int) : Box (w.alloc (.cells #[.int .i64 f, .int .i64 s, .int .i64 c, .int .i64 d, .bool g, .int .i64 t] 25)) w.heap.size f s c d g t := Bx.made _ w _
end
theorem below_box (w : World) (o : Obj) : Below w.heap.size w (w.alloc o) := bx.below_box w o
theorem below_box2 (w : World) (o o' : Obj) : Below w.heap.size w ((w.alloc o).alloc o') := bx.below_box2 w o o'
set_option maxRecDepth 100000 in
set_option maxHeartbeats 4000000 in
theorem implNb (x v : Int) (w : World) (h : nbs x = v) :
    Calls Try.prog 34 #[.int .i64 x] w (fun e w' => e = .returned (.int .i64 v) ∧ w = w') := by
  by_cases h0 : x < 0
  · obtain rfl : v = 0 := by rw [← h]; unfold nbs; rw [if_pos h0]
    clear h
    go_enter Try.func34, Try.ntmps34
    go_wp2_with fail
    go_ret
    exact ⟨rfl, rfl⟩
  · by_cases h1 : 1000000000000 < x
    · obtain rfl : v = -1 := by rw [← h]; unfold nbs; rw [if_neg h0, if_pos h1]
      clear h
      go_enter Try.func34, Try.ntmps34
      go_wp2_with fail
      go_ret
      exact ⟨rfl, rfl⟩
    · have h2 : v = (x / 10 + 1) * 10 := by rw [← h]; unfold nbs; rw [if_neg h0, if_neg h1]
      have h3 : 0 ≤ x := by omega
      have h4 : x ≤ 1000000000000 := by omega
      obtain ⟨y, hy⟩ : ∃ y, x / 10 = y := ⟨_, rfl⟩
      have h5 : 0 ≤ y ∧ y ≤ 100000000000 := by omega
      rw [hy] at h2
      have m1 : IntKind.i64.wrap (y + 1) = y + 1 := IntWalk.i64_in _ (by omega)
      have m2 : IntKind.i64.wrap ((y + 1) * 10) = v := by rw [h2]; exact IntWalk.i64_in _ (by omega)
      have m3 : wrap64 (y + 1) = y + 1 := by unfold wrap64; omega
      have m4 : wrap64 ((y + 1) * 10) = v := by rw [h2]; unfold wrap64; omega
      have HH := Lib.hid h2
      have d1 : decide (x < 0) = false := decide_eq_false h0
      have d2 : decide (x > 1000000000000) = false := decide_eq_false h1
      clear h h2 h5
      go_enter Try.func34, Try.ntmps34
      go_wp2_with fail
      go_ret
      exact ⟨by first | rfl | rw [HH.out], rfl⟩
set_option maxRecDepth 100000 in
set_option maxHeartbeats 4000000 in
theorem implDc (s p v : Int) (w : World) (h : dca s p = v) :
    Calls Try.prog 36 #[.int .i64 s, .int .i64 p] w (fun e w' => e = .returned (.int .i64 v) ∧ w = w') := by
  obtain ⟨t1, h1⟩ : ∃ x, decide (Sl s) = x := ⟨_, rfl⟩
  obtain ⟨t2, h2⟩ : ∃ x, decide (Pd p) = x := ⟨_, rfl⟩
  have H1 := Lib.hid h1
  have H2 := Lib.hid h2
  clear h1 h2
  go_enter Try.func36, Try.ntmps36
  go_wp2_with fail
  (with_reducible refine (isSl s t1 _ H1.out).mono ?_)
  rintro e wq ⟨rfl, rfl⟩
  cases t1 with
  | true =>
    go_wp2_with fail
    (with_reducible refine (isPd p t2 _ H2.out).mono ?_)
    rintro e wq ⟨rfl, rfl⟩
    cases t2 with
    | true =>
      have hs : Sl s := of_decide_eq_true H1.out
      have hp : Pd p := of_decide_eq_true H2.out
      have HP := Lib.hid (show 1 ≤ p ∧ p ≤ 1000000000000 by unfold Pd at hp; omega)
      have HE := Lib.hid (show v = (-(s / 10)) % p by rw [← h]; exact (dca_ok hs hp).1)
      have hs0 : 0 ≤ s := hs.1.1
      have hs1 : s ≤ 1000000000000 := hs.1.2
      obtain ⟨y, hy⟩ : ∃ y, s / 10 = y := ⟨_, rfl⟩
      have hyb : 0 ≤ y ∧ y ≤ 100000000000 := by omega
      rw [hy] at HE
      have m1 : IntKind.i64.wrap (-y) = -y := IntWalk.i64_in _ (by omega)
      have m2 : wrap64 (-y) = -y := by unfold wrap64; omega
      clear h hs hp hyb
      go_wp2_with fail
      (with_reducible refine (hsh.implMod (-y) p HP.out _).mono ?_)
      rintro e wq ⟨rfl, rfl⟩
      go_wp2_with fail
      go_ret
      exact ⟨by rw [HE.out]; rfl, rfl⟩
    | false =>
      obtain rfl : v = -1 := by rw [← h]; unfold dca; exact if_neg fun q => of_decide_eq_false H2.out q.2
      clear h
      go_wp2_with fail
      go_ret
      exact ⟨rfl, rfl⟩
  | false =>
    obtain rfl : v = -1 := by rw [← h]; unfold dca; exact if_neg fun q => of_decide_eq_false H1.out q.1
    clear h
    go_wp2_with fail
    go_ret
    exact ⟨rfl, rfl⟩
set_option maxRecDepth 100000 in
set_option maxHeartbeats 4000000 in
theorem implNd (f s c d : Int) (g : Bool) (t : Int) (w : World) :
    Calls Try.prog 38 #[.agg #[.int .i64 f, .int .i64 s, .int .i64 c, .int .i64 d, .bool g, .int .i64 t]] w (NPost (nd ⟨f, s, c, d, g, t⟩) w) := by
  obtain ⟨b, hb⟩ : ∃ x, vb ⟨f, s, c, d, g, t⟩ = x := ⟨_, rfl⟩
  have HV := Lib.hid hb
  clear hb
  go_enter Try.func38, Try.ntmps38
  go_wp2_with fail
  obtain ⟨w0, hW⟩ : ∃ w0, w.alloc (.cells #[.int .i64 f, .int .i64 s, .int .i64 c, .int .i64 d, .bool g, .int .i64 t] 25) = w0 := ⟨_, rfl⟩
  rw [hW]
  have B0 := Lib.hid (show Below w.heap.size w w0 by rw [← hW]; exact (Below.refl _ _).alloc (by simp <;> omega) _)
  have X0 := Lib.hid (show Bx 25 w0 (w.heap.size) #[.int .i64 f, .int .i64 s, .int .i64 c, .int .i64 d, .bool g, .int .i64 t] by
      rw [← hW]
      have hh := Bx.made 25 w #[.int .i64 f, .int .i64 s, .int .i64 c, .int .i64 d, .bool g, .int .i64 t]
      exact hh)
  clear hW
  have LTX := Lib.hid X0.out.lt
  go_wp2_with (refine stw.list_load rfl 25 _ rfl (w.heap.size) rfl 25 _ X0.out Try.underlying25 rfl szB ?_)
  (with_reducible refine (implVb f s c d g t _).mono ?_)
  rintro e w1 hp
  obtain ⟨rfl, hb⟩ := b_parts HV.out hp
  clear hp
  have SS1 := Lib.hid hb.size
  have B1 := Lib.hid (B0.out.trans (hb.mono B0.out.size))
  have X1 := Lib.hid (X0.out.below hb)
  clear hb  B0 X0
  cases b with
  | true =>
    have hv : Vb ⟨f, s, c, d, g, t⟩ := of_decide_eq_true HV.out
    have HE := Lib.hid (show nd ⟨f, s, c, d, g, t⟩ = s + c * 10 by unfold nd; exact if_pos hv)
    obtain ⟨_, h2, h3, h4, _⟩ := hv
    dsimp only at h2 h3 h4
    unfold Sl at h2
    unfold Pd at h3
    unfold Ct at h4
    obtain ⟨m, hm⟩ : ∃ m, c * 10 = m := ⟨_, rfl⟩
    have hmb : 0 ≤ m ∧ m ≤ 80 := by omega
    rw [hm] at HE
    have m1 : IntKind.i64.wrap (c * 10) = m := by rw [hm]; exact IntWalk.i64_in _ (by omega)
    have m2 : wrap64 (c * 10) = m := by rw [hm]; unfold wrap64; omega
    have m3 : IntKind.i64.wrap (s + m) = s + m := IntWalk.i64_in _ (by omega)
    have m4 : wrap64 (s + m) = s + m := by unfold wrap64; omega
    clear h2 h3 h4 hm hmb
    have cX1 : w1.cell? ⟨w.heap.size, 1, none⟩ = some (.int .i64 s) := X1.out.cell 1
    have cX2 : w1.cell? ⟨w.heap.size, 2, none⟩ = some (.int .i64 c) := X1.out.cell 2
    go_wp2_with fail
    go_ret
    rw [HE.out]
    exact ⟨rfl, B1.out⟩
  | false =>
    have HE := Lib.hid (show nd ⟨f, s, c, d, g, t⟩ = -1 by unfold nd; exact if_neg (of_decide_eq_false HV.out))
    go_wp2_with fail
    go_ret
    rw [HE.out]
    exact ⟨rfl, B1.out⟩
set_option maxRecDepth 100000 in
set_option maxHeartbeats 4000000 in
theorem specNb (x v : Int) (w : World) (h : nbs x = v) :
    Calls Try.prog 33 #[.int .i64 x] w (fun e w' => e = .returned (.int .i64 v) ∧ w = w') := by
  by_cases h0 : x < 0
  · obtain rfl : v = 0 := by rw [← h]; unfold nbs; rw [if_pos h0]
    clear h
    go_enter Try.func33, Try.ntmps33
    go_wp2_with fail
    go_ret
    exact ⟨rfl, rfl⟩
  · by_cases h1 : 1000000000000 < x
    · obtain rfl : v = -1 := by rw [← h]; unfold nbs; rw [if_neg h0, if_pos h1]
      clear h
      go_enter Try.func33, Try.ntmps33
      go_wp2_with fail
      go_ret
      exact ⟨rfl, rfl⟩
    · have h2 : v = (x / 10 + 1) * 10 := by rw [← h]; unfold nbs; rw [if_neg h0, if_neg h1]
      have h3 : 0 ≤ x := by omega
      have h4 : x ≤ 1000000000000 := by omega
      obtain ⟨y, hy⟩ : ∃ y, x / 10 = y := ⟨_, rfl⟩
      have h5 : 0 ≤ y ∧ y ≤ 100000000000 := by omega
      rw [hy] at h2
      have m1 : IntKind.i64.wrap (y + 1) = y + 1 := IntWalk.i64_in _ (by omega)
      have m2 : IntKind.i64.wrap ((y + 1) * 10) = v := by rw [h2]; exact IntWalk.i64_in _ (by omega)
      have m3 : wrap64 (y + 1) = y + 1 := by unfold wrap64; omega
      have m4 : wrap64 ((y + 1) * 10) = v := by rw [h2]; unfold wrap64; omega
      have HH := Lib.hid h2
      have d1 : decide (x < 0) = false := decide_eq_false h0
      have d2 : decide (x > 1000000000000) = false := decide_eq_false h1
      clear h h2 h5
      go_enter Try.func33, Try.ntmps33
      go_wp2_with fail
      go_ret
      exact ⟨by first | rfl | rw [HH.out], rfl⟩
set_option maxRecDepth 100000 in
set_option maxHeartbeats 4000000 in
theorem specDc (s p v : Int) (w : World) (h : dca s p = v) :
    Calls Try.prog 35 #[.int .i64 s, .int .i64 p] w (fun e w' => e = .returned (.int .i64 v) ∧ w = w') := by
  obtain ⟨t1, h1⟩ : ∃ x, decide (Sl s) = x := ⟨_, rfl⟩
  obtain ⟨t2, h2⟩ : ∃ x, decide (Pd p) = x := ⟨_, rfl⟩
  have H1 := Lib.hid h1
  have H2 := Lib.hid h2
  clear h1 h2
  obtain ⟨r, hr⟩ : ∃ x, decide (0 ≤ s ∧ s ≤ 1000000000000) = x := ⟨_, rfl⟩
  have HR := Lib.hid hr
  clear hr
  go_enter Try.func35, Try.ntmps35
  go_wp2_with fail
  (with_reducible refine (l1R s 0 1000000000000 r _ HR.out).mono ?_)
  rintro e wq ⟨rfl, rfl⟩
  cases r with
  | true =>
    have hs := of_decide_eq_true HR.out
    have hs0 := hs.1
    have hs1 := hs.2
    by_cases hm : s % 10 = 0
    · obtain rfl : t1 = true := by rw [← H1.out]; exact decide_eq_true ⟨hs, hm⟩
      clear hs
      go_wp2_with fail
      (with_reducible refine (l1R p 1 8 t2 _ (dec_ H2.out Iff.rfl)).mono ?_)
      rintro e wq ⟨rfl, rfl⟩
      cases t2 with
      | true =>
        have hs : Sl s := of_decide_eq_true H1.out
        have hp : Pd p := of_decide_eq_true H2.out
        have HP := Lib.hid (show 1 ≤ p ∧ p ≤ 1000000000000 by unfold Pd at hp; omega)
        have HE := Lib.hid (show v = (-(s / 10)) % p by rw [← h]; exact (dca_ok hs hp).1)
        have hs0 : 0 ≤ s := hs.1.1
        have hs1 : s ≤ 1000000000000 := hs.1.2
        obtain ⟨y, hy⟩ : ∃ y, s / 10 = y := ⟨_, rfl⟩
        have hyb : 0 ≤ y ∧ y ≤ 100000000000 := by omega
        rw [hy] at HE
        have m1 : IntKind.i64.wrap (-y) = -y := IntWalk.i64_in _ (by omega)
        have m2 : wrap64 (-y) = -y := by unfold wrap64; omega
        clear h hs hp hyb
        go_wp2_with fail
        (with_reducible refine (hsh.specMod (-y) p HP.out _).mono ?_)
        rintro e wq ⟨rfl, rfl⟩
        go_wp2_with fail
        go_ret
        exact ⟨by rw [HE.out]; rfl, rfl⟩
      | false =>
        obtain rfl : v = -1 := by rw [← h]; unfold dca; exact if_neg fun q => of_decide_eq_false H2.out q.2
        clear h
        go_wp2_with fail
        go_ret
        exact ⟨rfl, rfl⟩
    · obtain rfl : t1 = false := by rw [← H1.out]; exact decide_eq_false fun q => hm q.2
      have hm2 : (s % 10 == 0) = false := by simpa using hm
      have hm3 : (s % 10 != 0) = true := by simpa using hm
      clear hm hs
      obtain rfl : v = -1 := by rw [← h]; unfold dca; exact if_neg fun q => of_decide_eq_false H1.out q.1
      clear h
      go_wp2_with fail
      go_ret
      exact ⟨rfl, rfl⟩
  | false =>
    obtain rfl : t1 = false := by rw [← H1.out]; exact decide_eq_false fun q => of_decide_eq_false HR.out q.1
    obtain rfl : v = -1 := by rw [← h]; unfold dca; exact if_neg fun q => of_decide_eq_false H1.out q.1
    clear h
    go_wp2_with fail
    go_ret
    exact ⟨rfl, rfl⟩
set_option maxRecDepth 100000 in
set_option maxHeartbeats 4000000 in
theorem specNd (f s c d : Int) (g : Bool) (t : Int) (w : World) :
    Calls Try.prog 37 #[.agg #[.int .i64 f, .int .i64 s, .int .i64 c, .int .i64 d, .bool g, .int .i64 t]] w (NPost (nd ⟨f, s, c, d, g, t⟩) w) := by
  obtain ⟨b, hb⟩ : ∃ x, vb ⟨f, s, c, d, g, t⟩ = x := ⟨_, rfl⟩
  have HV := Lib.hid hb
  clear hb
  go_enter Try.func37, Try.ntmps37
  go_wp2_with fail
  obtain ⟨w0, hW⟩ : ∃ w0, w.alloc (.cells #[.int .i64 f, .int .i64 s, .int .i64 c, .int .i64 d, .bool g, .int .i64 t] 25) = w0 := ⟨_, rfl⟩
  rw [hW]
  have B0 := Lib.hid (show Below w.heap.size w w0 by rw [← hW]; exact (Below.refl _ _).alloc (by simp <;> omega) _)
  have X0 := Lib.hid (show Bx 25 w0 (w.heap.size) #[.int .i64 f, .int .i64 s, .int .i64 c, .int .i64 d, .bool g, .int .i64 t] by
      rw [← hW]
      have hh := Bx.made 25 w #[.int .i64 f, .int .i64 s, .int .i64 c, .int .i64 d, .bool g, .int .i64 t]
      exact hh)
  clear hW
  have LTX := Lib.hid X0.out.lt
  go_wp2_with (refine stw.list_load rfl 25 _ rfl (w.heap.size) rfl 25 _ X0.out Try.underlying25 rfl szB ?_)
  (with_reducible refine (specVb f s c d g t _).mono ?_)
  rintro e w1 hp
  obtain ⟨rfl, hb⟩ := b_parts HV.out hp
  clear hp
  have SS1 := Lib.hid hb.size
  have B1 := Lib.hid (B0.out.trans (hb.mono B0.out.size))
  have X1 := Lib.hid (X0.out.below hb)
  clear hb  B0 X0
  cases b with
  | true =>
    have hv : Vb ⟨f, s, c, d, g, t⟩ := of_decide_eq_true HV.out
    have HE := Lib.hid (show nd ⟨f, s, c, d, g, t⟩ = s + c * 10 by unfold nd; exact if_pos hv)
    obtain ⟨_, h2, h3, h4, _⟩ := hv
    dsimp only at h2 h3 h4
    unfold Sl at h2
    unfold Pd at h3
    unfold Ct at h4
    obtain ⟨m, hm⟩ : ∃ m, c * 10 = m := ⟨_, rfl⟩
    have hmb : 0 ≤ m ∧ m ≤ 80 := by omega
    rw [hm] at HE
    have m1 : IntKind.i64.wrap (c * 10) = m := by rw [hm]; exact IntWalk.i64_in _ (by omega)
    have m2 : wrap64 (c * 10) = m := by rw [hm]; unfold wrap64; omega
    have m3 : IntKind.i64.wrap (s + m) = s + m := IntWalk.i64_in _ (by omega)
    have m4 : wrap64 (s + m) = s + m := by unfold wrap64; omega
    clear h2 h3 h4 hm hmb
    have cX1 : w1.cell? ⟨w.heap.size, 1, none⟩ = some (.int .i64 s) := X1.out.cell 1
    have cX2 : w1.cell? ⟨w.heap.size, 2, none⟩ = some (.int .i64 c) := X1.out.cell 2
    go_wp2_with fail
    go_ret
    rw [HE.out]
    exact ⟨rfl, B1.out⟩
  | false =>
    have HE := Lib.hid (show nd ⟨f, s, c, d, g, t⟩ = -1 by unfold nd; exact if_neg (of_decide_eq_false HV.out))
    go_wp2_with fail
    go_ret
    rw [HE.out]
    exact ⟨rfl, B1.out⟩
end Go.Proofs.Ytalfihfielgmpaa.be
