/- Headers as values: IsValidHeader, the numbers of symbols, EqualHeaders, and the harness's copy and comparison, program and specification. Condition: none. -/
import Derived.Test.YtdelpepepbkjmaaPhm
import Derived.Test.YtdelpepepbkjmaaScr1
import Derived.Test.YtdelpepepbkjmaaCnv1
namespace Go.Proofs.Ytdelpepepbkjmaa.phs
open Go.RowKit sl harn rng phm

/-- A header as a value. -/
abbrev hval (r l s : Int) : Value := .agg #[.int .i64 r, .int .i64 l, .int .i64 s]
theorem results_cell1 {fn : Func} {p : Tmp} {ty : TypeId} (h : fn.results = #[.cell p ty]) (tmps : Array Value) (P : Program) (w : World) :
    (results fn tmps).run P w = ((asAddr (tmps.getD p undef)).run P w).andThen fun a w₁ => (loadVar ty a).run P w₁ := by
  simp only [results, h]
  simp [Sem.run_bind, Result.andThen]
theorem below_box2 (w : World) (o o' : Obj) : Below w.heap.size w ((w.alloc o).alloc o') := ((Below.refl _ _).alloc (Nat.le_refl _) _).alloc (by simp) _
theorem below_box (w : World) (o : Obj) : Below w.heap.size w (w.alloc o) := (Below.refl _ _).alloc (Nat.le_refl _) _
/-- A header in a block of its own. -/
def Box (w : World) (b : Nat) (r l s : Int) : Prop := w.heap[b]? = some (.cells #[.int .i64 r, .int .i64 l, .int .i64 s] 25 (0, 0))
section
variable {w w' : World} {b : Nat} {r l s : Int}
theorem Box.c0 (h : Box w b r l s) : w.cell? ⟨b, 0, none⟩ = some (.int .i64 r) := by unfold Box at h; simp [World.cell?, h]
theorem Box.c1 (h : Box w b r l s) : w.cell? ⟨b, 1, none⟩ = some (.int .i64 l) := by unfold Box at h; simp [World.cell?, h]
theorem Box.c2 (h : Box w b r l s) : w.cell? ⟨b, 2, none⟩ = some (.int .i64 s) := by unfold Box at h; simp [World.cell?, h]
theorem Box.lt (h : Box w b r l s) : b < w.heap.size := lt_of_block h
theorem Box.same (h : Box w b r l s) (hb : w'.heap[b]? = w.heap[b]?) : Box w' b r l s := by unfold Box at h ⊢; rw [hb]; exact h
theorem Box.below (h : Box w b r l s) (hb : Below w.heap.size w w') : Box w' b r l s := h.same (hb.block b h.lt)
theorem Box.free (h : Box w b r l s) (i : Nat) : w.frozen? ⟨b, i, none⟩ = false := by unfold Box at h; simp [World.frozen?, h]
theorem Box.tch {lo hi : Nat} (h : Box w b r l s) (hb : Tch lo hi w w') (hd : b < lo ∨ hi ≤ b) : Box w' b r l s := h.same (hb.block b h.lt hd)
theorem Box.made (w : World) (r l s : Int) : Box (w.alloc (.cells #[.int .i64 r, .int .i64 l, .int .i64 s] 25)) w.heap.size r l s := heap_alloc_new w _
theorem Box.up {B : Nat} (h : Box w b r l s) (hb : Below B w w') (hB : b < B) : Box w' b r l s := h.same (hb.block b hB)
end
/-- What a function of a header hands back that is a bool, or an integer. -/
def BPost (b : Bool) (w : World) (e : Ending) (w' : World) : Prop := e = .returned (.bool b) ∧ Below w.heap.size w w'
def NPost (n : Int) (w : World) (e : Ending) (w' : World) : Prop := e = .returned (.int .i64 n) ∧ Below w.heap.size w w'

theorem implHv (r l s : Int) (w : World) :
    Calls Try.prog 15 #[.agg #[.int .i64 r, .int .i64 l, .int .i64 s]] w (BPost (hv r l s) w) := by
  by_cases hr : 1 ≤ r ∧ r ≤ 2
  · by_cases hl : 0 ≤ l ∧ l ≤ 120
    · by_cases hs : 1 ≤ s ∧ s ≤ 127
      · have HV := Lib.hid (hv_yes (show Hv r l s from ⟨hr, hl, hs⟩))
        have H1 := Lib.hid hr
        have H2 := Lib.hid hl
        have H3 := Lib.hid hs
        clear hr hl hs
        go_enter Try.func15, Try.ntmps15
        go_wp2_with fail
        (with_reducible refine (inRange_yes _ _ _ H1.out _).mono ?_)
        rintro e w1 ⟨rfl, rfl⟩
        go_wp2_with fail
        (with_reducible refine (inRange_yes _ _ _ H2.out _).mono ?_)
        rintro e w1 ⟨rfl, rfl⟩
        go_wp2_with fail
        (with_reducible refine (scrs.isState_yes _ H3.out _).mono ?_)
        rintro e w1 ⟨rfl, rfl⟩
        go_wp2_with fail
        go_ret
        rw [HV.out]
        exact ⟨rfl, below_box _ _⟩
      · have HV := Lib.hid (hv_no (show ¬ Hv r l s from fun h => hs h.2.2))
        have H1 := Lib.hid hr
        have H2 := Lib.hid hl
        have H3 := Lib.hid hs
        clear hr hl hs
        go_enter Try.func15, Try.ntmps15
        go_wp2_with fail
        (with_reducible refine (inRange_yes _ _ _ H1.out _).mono ?_)
        rintro e w1 ⟨rfl, rfl⟩
        go_wp2_with fail
        (with_reducible refine (inRange_yes _ _ _ H2.out _).mono ?_)
        rintro e w1 ⟨rfl, rfl⟩
        go_wp2_with fail
        (with_reducible refine (scrs.isState_no _ H3.out _).mono ?_)
        rintro e w1 ⟨rfl, rfl⟩
        go_wp2_with fail
        go_ret
        rw [HV.out]
        exact ⟨rfl, below_box _ _⟩
    · have HV := Lib.hid (hv_no (show ¬ Hv r l s from fun h => hl h.2.1))
      have H1 := Lib.hid hr
      have H2 := Lib.hid hl
      clear hr hl
      go_enter Try.func15, Try.ntmps15
      go_wp2_with fail
      (with_reducible refine (inRange_yes _ _ _ H1.out _).mono ?_)
      rintro e w1 ⟨rfl, rfl⟩
      go_wp2_with fail
      (with_reducible refine (inRange_no _ _ _ H2.out _).mono ?_)
      rintro e w1 ⟨rfl, rfl⟩
      go_wp2_with fail
      go_ret
      rw [HV.out]
      exact ⟨rfl, below_box _ _⟩
  · have HV := Lib.hid (hv_no (show ¬ Hv r l s from fun h => hr h.1))
    have H1 := Lib.hid hr
    clear hr
    go_enter Try.func15, Try.ntmps15
    go_wp2_with fail
    (with_reducible refine (inRange_no _ _ _ H1.out _).mono ?_)
    rintro e w1 ⟨rfl, rfl⟩
    go_wp2_with fail
    go_ret
    rw [HV.out]
    exact ⟨rfl, below_box _ _⟩
theorem specHv (r l s : Int) (w : World) :
    Calls Try.prog 14 #[.agg #[.int .i64 r, .int .i64 l, .int .i64 s]] w (BPost (hv r l s) w) := by
  by_cases hr : 1 ≤ r ∧ r ≤ 2
  · by_cases hl : 0 ≤ l ∧ l ≤ 120
    · by_cases hs : 1 ≤ s ∧ s ≤ 127
      · have HV := Lib.hid (hv_yes (show Hv r l s from ⟨hr, hl, hs⟩))
        have H1 := Lib.hid hr
        have H2 := Lib.hid hl
        have H3 := Lib.hid hs
        clear hr hl hs
        go_enter Try.func14, Try.ntmps14
        go_wp2_with fail
        (with_reducible refine (l1In_yes _ _ _ H1.out _).mono ?_)
        rintro e w1 ⟨rfl, rfl⟩
        go_wp2_with fail
        (with_reducible refine (l1In_yes _ _ _ H2.out _).mono ?_)
        rintro e w1 ⟨rfl, rfl⟩
        go_wp2_with fail
        (with_reducible refine (l1In_yes _ _ _ H3.out _).mono ?_)
        rintro e w1 ⟨rfl, rfl⟩
        go_wp2_with fail
        go_ret
        rw [HV.out]
        exact ⟨rfl, below_box _ _⟩
      · have HV := Lib.hid (hv_no (show ¬ Hv r l s from fun h => hs h.2.2))
        have H1 := Lib.hid hr
        have H2 := Lib.hid hl
        have H3 := Lib.hid hs
        clear hr hl hs
        go_enter Try.func14, Try.ntmps14
        go_wp2_with fail
        (with_reducible refine (l1In_yes _ _ _ H1.out _).mono ?_)
        rintro e w1 ⟨rfl, rfl⟩
        go_wp2_with fail
        (with_reducible refine (l1In_yes _ _ _ H2.out _).mono ?_)
        rintro e w1 ⟨rfl, rfl⟩
        go_wp2_with fail
        (with_reducible refine (l1In_no _ _ _ H3.out _).mono ?_)
        rintro e w1 ⟨rfl, rfl⟩
        go_wp2_with fail
        go_ret
        rw [HV.out]
        exact ⟨rfl, below_box _ _⟩
    · have HV := Lib.hid (hv_no (show ¬ Hv r l s from fun h => hl h.2.1))
      have H1 := Lib.hid hr
      have H2 := Lib.hid hl
      clear hr hl
      go_enter Try.func14, Try.ntmps14
      go_wp2_with fail
      (with_reducible refine (l1In_yes _ _ _ H1.out _).mono ?_)
      rintro e w1 ⟨rfl, rfl⟩
      go_wp2_with fail
      (with_reducible refine (l1In_no _ _ _ H2.out _).mono ?_)
      rintro e w1 ⟨rfl, rfl⟩
      go_wp2_with fail
      go_ret
      rw [HV.out]
      exact ⟨rfl, below_box _ _⟩
  · have HV := Lib.hid (hv_no (show ¬ Hv r l s from fun h => hr h.1))
    have H1 := Lib.hid hr
    clear hr
    go_enter Try.func14, Try.ntmps14
    go_wp2_with fail
    (with_reducible refine (l1In_no _ _ _ H1.out _).mono ?_)
    rintro e w1 ⟨rfl, rfl⟩
    go_wp2_with fail
    go_ret
    rw [HV.out]
    exact ⟨rfl, below_box _ _⟩

/-- Two headers alike. -/
def eqh (r l s r' l' s' : Int) : Bool := decide (r = r' ∧ l = l' ∧ s = s')
theorem eqh_yes {r l s r' l' s' : Int} (h : r = r' ∧ l = l' ∧ s = s') : eqh r l s r' l' s' = true := decide_eq_true h
theorem eqh_no {r l s r' l' s' : Int} (h : ¬ (r = r' ∧ l = l' ∧ s = s')) : eqh r l s r' l' s' = false := decide_eq_false h
theorem toHdr (r l s : Int) (w : World) :
    Calls Try.prog 19 #[.agg #[.int .i64 r, .int .i64 l, .int .i64 s]] w fun e w' => e = .returned (.agg #[.int .i64 r, .int .i64 l, .int .i64 s]) ∧ Below w.heap.size w w' := by
  go_enter Try.func19, Try.ntmps19
  go_wp2
  (try simp only [Exit.inBlock, Exit.then])
  refine bodyPost_ret (v := .agg #[.int .i64 r, .int .i64 l, .int .i64 s]) ?_ rfl ⟨rfl, ?_⟩
  · rw [results_cell1 rfl]
    go_simp
  · (repeat' (first | exact Below.refl _ _ | refine Below.setCell ?_ (by simp) _ | refine Below.alloc ?_ (by simp <;> omega) _))
theorem eqHdr (r l s r' l' s' : Int) (w : World) :
    Calls Try.prog 26 #[.agg #[.int .i64 r, .int .i64 l, .int .i64 s], .agg #[.int .i64 r', .int .i64 l', .int .i64 s']] w (BPost (eqh r l s r' l' s') w) := by
  by_cases h : r = r' ∧ l = l' ∧ s = s'
  · have HD := Lib.hid (eqh_yes h)
    obtain ⟨rfl, rfl, rfl⟩ := h
    go_enter Try.func26, Try.ntmps26
    go_wp2
    go_ret
    rw [HD.out]
    exact ⟨rfl, below_box2 _ _ _⟩
  · have HD := Lib.hid (eqh_no h)
    by_cases h1 : r = r'
    · subst h1
      by_cases h2 : l = l'
      · subst h2
        have h3 : (s == s') = false := by
          have : ¬ s = s' := fun e => h ⟨rfl, rfl, e⟩
          simpa using this
        clear h
        go_enter Try.func26, Try.ntmps26
        go_wp2
        go_ret
        rw [HD.out]
        exact ⟨rfl, below_box2 _ _ _⟩
      · have h3 : (l == l') = false := by simpa using h2
        clear h h2
        go_enter Try.func26, Try.ntmps26
        go_wp2
        go_ret
        rw [HD.out]
        exact ⟨rfl, below_box2 _ _ _⟩
    · have h3 : (r == r') = false := by simpa using h1
      clear h h1
      go_enter Try.func26, Try.ntmps26
      go_wp2
      go_ret
      rw [HD.out]
      exact ⟨rfl, below_box2 _ _ _⟩
theorem implEqh (r l s r' l' s' : Int) (w : World) :
    Calls Try.prog 18 #[.agg #[.int .i64 r, .int .i64 l, .int .i64 s], .agg #[.int .i64 r', .int .i64 l', .int .i64 s']] w (BPost (eqh r l s r' l' s') w) := by
  by_cases h : r = r' ∧ l = l' ∧ s = s'
  · have HD := Lib.hid (eqh_yes h)
    obtain ⟨rfl, rfl, rfl⟩ := h
    go_enter Try.func18, Try.ntmps18
    go_wp2
    go_ret
    rw [HD.out]
    exact ⟨rfl, below_box2 _ _ _⟩
  · have HD := Lib.hid (eqh_no h)
    by_cases h1 : r = r'
    · subst h1
      by_cases h2 : l = l'
      · subst h2
        have h3 : (s == s') = false := by
          have : ¬ s = s' := fun e => h ⟨rfl, rfl, e⟩
          simpa using this
        clear h
        go_enter Try.func18, Try.ntmps18
        go_wp2
        go_ret
        rw [HD.out]
        exact ⟨rfl, below_box2 _ _ _⟩
      · have h3 : (l == l') = false := by simpa using h2
        clear h h2
        go_enter Try.func18, Try.ntmps18
        go_wp2
        go_ret
        rw [HD.out]
        exact ⟨rfl, below_box2 _ _ _⟩
    · have h3 : (r == r') = false := by simpa using h1
      clear h h1
      go_enter Try.func18, Try.ntmps18
      go_wp2
      go_ret
      rw [HD.out]
      exact ⟨rfl, below_box2 _ _ _⟩
theorem specEqh (r l s r' l' s' : Int) (w : World) :
    Calls Try.prog 36 #[.agg #[.int .i64 r, .int .i64 l, .int .i64 s], .agg #[.int .i64 r', .int .i64 l', .int .i64 s']] w (BPost (eqh r l s r' l' s') w) := by
  by_cases h : r = r' ∧ l = l' ∧ s = s'
  · have HD := Lib.hid (eqh_yes h)
    obtain ⟨rfl, rfl, rfl⟩ := h
    go_enter Try.func36, Try.ntmps36
    go_wp2
    go_ret
    rw [HD.out]
    exact ⟨rfl, below_box2 _ _ _⟩
  · have HD := Lib.hid (eqh_no h)
    by_cases h1 : r = r'
    · subst h1
      by_cases h2 : l = l'
      · subst h2
        have h3 : (s == s') = false := by
          have : ¬ s = s' := fun e => h ⟨rfl, rfl, e⟩
          simpa using this
        clear h
        go_enter Try.func36, Try.ntmps36
        go_wp2
        go_ret
        rw [HD.out]
        exact ⟨rfl, below_box2 _ _ _⟩
      · have h3 : (l == l') = false := by simpa using h2
        clear h h2
        go_enter Try.func36, Try.ntmps36
        go_wp2
        go_ret
        rw [HD.out]
        exact ⟨rfl, below_box2 _ _ _⟩
    · have h3 : (r == r') = false := by simpa using h1
      clear h h1
      go_enter Try.func36, Try.ntmps36
      go_wp2
      go_ret
      rw [HD.out]
      exact ⟨rfl, below_box2 _ _ _⟩

theorem wf_num {n : Int} (h : -1000000 ≤ n ∧ n ≤ 1000000) : (Lit.int .i64 n).wf = true := WalkArith.wf_i64 (by omega)
theorem codedLen (r l s : Int) (h : 0 ≤ l ∧ l ≤ 120) (w : World) :
    Calls Try.prog 54 #[.agg #[.int .i64 r, .int .i64 l, .int .i64 s]] w (NPost (cl l) w) := by
  obtain ⟨m, hm⟩ : ∃ m, 8 * (l + 2) = m := ⟨_, rfl⟩
  have HM := Lib.hid (show cvm.enl m = cl l by rw [← hm]; rfl)
  go_enter Try.func54, Try.ntmps54
  go_wp2_with fail
  (with_reducible refine (cvs.implEnl m _).mono ?_)
  rw [HM.out]
  rintro e w1 ⟨rfl, rfl⟩
  go_wp2_with fail
  go_ret
  exact ⟨rfl, below_box _ _⟩
theorem implPsy (r l s : Int) (w : World) :
    Calls Try.prog 28 #[.agg #[.int .i64 r, .int .i64 l, .int .i64 s]] w (NPost (psy r l s) w) := by
  by_cases h : Hv r l s
  · have HV := Lib.hid (hv_yes h)
    have HL := Lib.hid h.2.1
    have hcl := cl_eq h.2.1
    have HW := Lib.hid (show (Lit.int .i64 (cl l)).wf = true from wf_num (by have := h.2.1; omega))
    clear hcl
    by_cases h2 : r = 2
    · have HP := Lib.hid (psy_fast h h2)
      subst h2
      clear h
      go_enter Try.func28, Try.ntmps28
      go_wp2_with fail
      (with_reducible refine (implHv _ _ _ _).mono ?_)
      rw [HV.out]
      rintro e w1 ⟨rfl, hb⟩
      have B1 := Lib.hid ((below_box w (.cells #[.int .i64 2, .int .i64 l, .int .i64 s] 25)).trans (hb.mono (by simp)))
      have X1 := Lib.hid ((Box.made w 2 l s).below hb)
      have c0 := X1.out.c0
      have c1 := X1.out.c1
      have c2 := X1.out.c2
      clear hb
      go_wp2_with fail
      (with_reducible refine (codedLen _ _ _ HL.out _).mono ?_)
      rintro e w2 ⟨rfl, hb⟩
      have B2 := Lib.hid (B1.out.trans (hb.mono B1.out.size))
      clear hb c0 c1 c2
      go_wp2_with fail
      (with_reducible refine (cvs.implPln _ HW.out _).mono ?_)
      rintro e w3 ⟨rfl, rfl⟩
      go_wp2_with fail
      go_ret
      rw [HP.out]
      exact ⟨rfl, B2.out⟩
    · have HP := Lib.hid (psy_slow h h2)
      have h3 : (r == 2) = false := by simpa using h2
      clear h h2
      go_enter Try.func28, Try.ntmps28
      go_wp2_with fail
      (with_reducible refine (implHv _ _ _ _).mono ?_)
      rw [HV.out]
      rintro e w1 ⟨rfl, hb⟩
      have B1 := Lib.hid ((below_box w (.cells #[.int .i64 r, .int .i64 l, .int .i64 s] 25)).trans (hb.mono (by simp)))
      have X1 := Lib.hid ((Box.made w r l s).below hb)
      have c0 := X1.out.c0
      have c1 := X1.out.c1
      have c2 := X1.out.c2
      clear hb
      go_wp2_with fail
      (with_reducible refine (codedLen _ _ _ HL.out _).mono ?_)
      rintro e w2 ⟨rfl, hb⟩
      have B2 := Lib.hid (B1.out.trans (hb.mono B1.out.size))
      clear hb c0 c1 c2
      go_wp2_with fail
      go_ret
      rw [HP.out]
      exact ⟨rfl, B2.out⟩
  · have HV := Lib.hid (hv_no h)
    have HP := Lib.hid (psy_no h)
    clear h
    go_enter Try.func28, Try.ntmps28
    go_wp2_with fail
    (with_reducible refine (implHv _ _ _ _).mono ?_)
    rw [HV.out]
    rintro e w1 ⟨rfl, hb⟩
    have B1 := Lib.hid ((below_box w (.cells #[.int .i64 r, .int .i64 l, .int .i64 s] 25)).trans (hb.mono (by simp)))
    clear hb
    go_wp2_with fail
    go_ret
    rw [HP.out]
    exact ⟨rfl, B1.out⟩
theorem specPsy (r l s : Int) (w : World) :
    Calls Try.prog 27 #[.agg #[.int .i64 r, .int .i64 l, .int .i64 s]] w (NPost (psy r l s) w) := by
  by_cases h : Hv r l s
  · have HV := Lib.hid (hv_yes h)
    have hL := h.2.1
    have hcl := cl_eq h.2.1
    have HW := Lib.hid (show (Lit.int .i64 (cl l)).wf = true from wf_num (by have := h.2.1; omega))
    obtain ⟨m, hm⟩ : ∃ m, 8 * (l + 2) = m := ⟨_, rfl⟩
    have HM := Lib.hid (show cvm.enl m = cl l by rw [← hm]; rfl)
    clear hcl
    by_cases h2 : r = 2
    · have HP := Lib.hid (psy_fast h h2)
      subst h2
      clear h
      go_enter Try.func27, Try.ntmps27
      go_wp2_with fail
      (with_reducible refine (specHv _ _ _ _).mono ?_)
      rw [HV.out]
      rintro e w1 ⟨rfl, hb⟩
      have B1 := Lib.hid ((below_box w (.cells #[.int .i64 2, .int .i64 l, .int .i64 s] 25)).trans (hb.mono (by simp)))
      have X1 := Lib.hid ((Box.made w 2 l s).below hb)
      have c0 := X1.out.c0
      have c1 := X1.out.c1
      have c2 := X1.out.c2
      clear hb
      go_wp2_with fail
      (with_reducible refine (cvs.specEnl m _).mono ?_)
      rw [HM.out]
      rintro e w2 ⟨rfl, rfl⟩
      go_wp2_with fail
      (with_reducible refine (cvs.specPln _ HW.out _).mono ?_)
      rintro e w3 ⟨rfl, rfl⟩
      go_wp2_with fail
      go_ret
      rw [HP.out]
      exact ⟨rfl, B1.out⟩
    · have HP := Lib.hid (psy_slow h h2)
      have h3 : (r == 2) = false := by simpa using h2
      clear h h2
      go_enter Try.func27, Try.ntmps27
      go_wp2_with fail
      (with_reducible refine (specHv _ _ _ _).mono ?_)
      rw [HV.out]
      rintro e w1 ⟨rfl, hb⟩
      have B1 := Lib.hid ((below_box w (.cells #[.int .i64 r, .int .i64 l, .int .i64 s] 25)).trans (hb.mono (by simp)))
      have X1 := Lib.hid ((Box.made w r l s).below hb)
      have c0 := X1.out.c0
      have c1 := X1.out.c1
      have c2 := X1.out.c2
      clear hb
      go_wp2_with fail
      (with_reducible refine (cvs.specEnl m _).mono ?_)
      rw [HM.out]
      rintro e w2 ⟨rfl, rfl⟩
      go_wp2_with fail
      go_ret
      rw [HP.out]
      exact ⟨rfl, B1.out⟩
  · have HV := Lib.hid (hv_no h)
    have HP := Lib.hid (psy_no h)
    clear h
    go_enter Try.func27, Try.ntmps27
    go_wp2_with fail
    (with_reducible refine (specHv _ _ _ _).mono ?_)
    rw [HV.out]
    rintro e w1 ⟨rfl, hb⟩
    have B1 := Lib.hid ((below_box w (.cells #[.int .i64 r, .int .i64 l, .int .i64 s] 25)).trans (hb.mono (by simp)))
    clear hb
    go_wp2_with fail
    go_ret
    rw [HP.out]
    exact ⟨rfl, B1.out⟩
theorem implFsy (r l s : Int) (w : World) :
    Calls Try.prog 35 #[.agg #[.int .i64 r, .int .i64 l, .int .i64 s]] w (NPost (fsy r l s) w) := by
  by_cases h : Hv r l s
  · have HV := Lib.hid (hv_yes h)
    have hin := psy_in h
    obtain ⟨m, hm⟩ : ∃ m, psy r l s = m := ⟨_, rfl⟩
    rw [hm] at hin
    have HP := Lib.hid (show fsy r l s = 54 + m by rw [← hm]; exact fsy_yes h)
    have HM := Lib.hid hm
    clear hm h
    go_enter Try.func35, Try.ntmps35
    go_wp2_with fail
    (with_reducible refine (implHv _ _ _ _).mono ?_)
    rw [HV.out]
    rintro e w1 ⟨rfl, hb⟩
    have B1 := Lib.hid ((below_box w (.cells #[.int .i64 r, .int .i64 l, .int .i64 s] 25)).trans (hb.mono (by simp)))
    have X1 := Lib.hid ((Box.made w r l s).below hb)
    have c0 := X1.out.c0
    have c1 := X1.out.c1
    have c2 := X1.out.c2
    clear hb
    go_wp2_with fail
    (with_reducible refine (implPsy _ _ _ _).mono ?_)
    rw [HM.out]
    rintro e w2 ⟨rfl, hb⟩
    have B2 := Lib.hid (B1.out.trans (hb.mono B1.out.size))
    clear hb c0 c1 c2
    go_wp2_with fail
    go_ret
    rw [HP.out]
    exact ⟨rfl, B2.out⟩
  · have HV := Lib.hid (hv_no h)
    have HP := Lib.hid (fsy_no h)
    clear h
    go_enter Try.func35, Try.ntmps35
    go_wp2_with fail
    (with_reducible refine (implHv _ _ _ _).mono ?_)
    rw [HV.out]
    rintro e w1 ⟨rfl, hb⟩
    have B1 := Lib.hid ((below_box w (.cells #[.int .i64 r, .int .i64 l, .int .i64 s] 25)).trans (hb.mono (by simp)))
    clear hb
    go_wp2_with fail
    go_ret
    rw [HP.out]
    exact ⟨rfl, B1.out⟩
theorem specFsy (r l s : Int) (w : World) :
    Calls Try.prog 34 #[.agg #[.int .i64 r, .int .i64 l, .int .i64 s]] w (NPost (fsy r l s) w) := by
  by_cases h : Hv r l s
  · have HV := Lib.hid (hv_yes h)
    have hin := psy_in h
    obtain ⟨m, hm⟩ : ∃ m, psy r l s = m := ⟨_, rfl⟩
    rw [hm] at hin
    have HP := Lib.hid (show fsy r l s = 54 + m by rw [← hm]; exact fsy_yes h)
    have HM := Lib.hid hm
    clear hm h
    go_enter Try.func34, Try.ntmps34
    go_wp2_with fail
    (with_reducible refine (specHv _ _ _ _).mono ?_)
    rw [HV.out]
    rintro e w1 ⟨rfl, hb⟩
    have B1 := Lib.hid ((below_box w (.cells #[.int .i64 r, .int .i64 l, .int .i64 s] 25)).trans (hb.mono (by simp)))
    have X1 := Lib.hid ((Box.made w r l s).below hb)
    have c0 := X1.out.c0
    have c1 := X1.out.c1
    have c2 := X1.out.c2
    clear hb
    go_wp2_with fail
    (with_reducible refine (specPsy _ _ _ _).mono ?_)
    rw [HM.out]
    rintro e w2 ⟨rfl, hb⟩
    have B2 := Lib.hid (B1.out.trans (hb.mono B1.out.size))
    clear hb c0 c1 c2
    go_wp2_with fail
    go_ret
    rw [HP.out]
    exact ⟨rfl, B2.out⟩
  · have HV := Lib.hid (hv_no h)
    have HP := Lib.hid (fsy_no h)
    clear h
    go_enter Try.func34, Try.ntmps34
    go_wp2_with fail
    (with_reducible refine (specHv _ _ _ _).mono ?_)
    rw [HV.out]
    rintro e w1 ⟨rfl, hb⟩
    have B1 := Lib.hid ((below_box w (.cells #[.int .i64 r, .int .i64 l, .int .i64 s] 25)).trans (hb.mono (by simp)))
    clear hb
    go_wp2_with fail
    go_ret
    rw [HP.out]
    exact ⟨rfl, B1.out⟩
/-- What exlaw.py takes of these contracts. -/
theorem b_parts {a r : Bool} (ht : a = r) {w w' : World} {e : Ending} (h : BPost a w e w') : e = .returned (.bool r) ∧ Below w.heap.size w w' := by
  subst ht; exact h
theorem n_parts {a r : Int} (ht : a = r) {w w' : World} {e : Ending} (h : NPost a w e w') : e = .returned (.int .i64 r) ∧ Below w.heap.size w w' := by
  subst ht; exact h
theorem eqHdr_yes (r l s : Int) (w : World) :
    Calls Try.prog 26 #[.agg #[.int .i64 r, .int .i64 l, .int .i64 s], .agg #[.int .i64 r, .int .i64 l, .int .i64 s]] w fun e w' => e = .returned (.bool true) ∧ Below w.heap.size w w' :=
  (eqHdr r l s r l s w).mono fun e w' h => by rw [eqh_yes ⟨rfl, rfl, rfl⟩] at h; exact h
/-- A law's own header in a block of its own. -/
def LBox (w : World) (b : Nat) (r l s : Int) : Prop := w.heap[b]? = some (.cells #[.int .i64 r, .int .i64 l, .int .i64 s] 34 (0, 0))
section
variable {w w' : World} {b : Nat} {r l s : Int}
theorem LBox.c0 (h : LBox w b r l s) : w.cell? ⟨b, 0, none⟩ = some (.int .i64 r) := by unfold LBox at h; simp [World.cell?, h]
theorem LBox.c1 (h : LBox w b r l s) : w.cell? ⟨b, 1, none⟩ = some (.int .i64 l) := by unfold LBox at h; simp [World.cell?, h]
theorem LBox.c2 (h : LBox w b r l s) : w.cell? ⟨b, 2, none⟩ = some (.int .i64 s) := by unfold LBox at h; simp [World.cell?, h]
theorem LBox.lt (h : LBox w b r l s) : b < w.heap.size := lt_of_block h
theorem LBox.same (h : LBox w b r l s) (hb : w'.heap[b]? = w.heap[b]?) : LBox w' b r l s := by unfold LBox at h ⊢; rw [hb]; exact h
theorem LBox.below (h : LBox w b r l s) (hb : Below w.heap.size w w') : LBox w' b r l s := h.same (hb.block b h.lt)
theorem LBox.tch {lo hi : Nat} (h : LBox w b r l s) (hb : Tch lo hi w w') (hd : b < lo ∨ hi ≤ b) : LBox w' b r l s := h.same (hb.block b h.lt hd)
theorem LBox.made (w : World) (r l s : Int) : LBox (w.alloc (.cells #[.int .i64 r, .int .i64 l, .int .i64 s] 34)) w.heap.size r l s := heap_alloc_new w _
end
end Go.Proofs.Ytdelpepepbkjmaa.phs
