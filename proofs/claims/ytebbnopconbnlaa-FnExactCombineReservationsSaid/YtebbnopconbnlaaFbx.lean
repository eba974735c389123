/- Medium access frames in memory: a block of nine cells; the checks of a frame, IsValidFrame, NeedsAck and ReplyKind, program and specification. Condition: none. -/
import Derived.Test.YtebbnopconbnlaaFrm
import Derived.Test.YtebbnopconbnlaaOwn
import Derived.Laws.EntriesVeiled
namespace Go.Proofs.Ytebbnopconbnlaa.fbx
open Go.RowKit sl harn rng frm
set_option linter.unusedVariables false

theorem results_cell1 {fn : Func} {p : Tmp} {ty : TypeId} (h : fn.results = #[.cell p ty]) (tmps : Array Value) (P : Program) (w : World) :
    (results fn tmps).run P w = ((asAddr (tmps.getD p undef)).run P w).andThen fun a w₁ => (loadVar ty a).run P w₁ := by
  simp only [results, h]
  simp [Sem.run_bind, Result.andThen]
theorem results_cell_tmp1 {fn : Func} {p u : Tmp} {ty : TypeId} (h : fn.results = #[.cell p ty, .tmp u]) (tmps : Array Value) (P : Program) (w : World) :
    (results fn tmps).run P w =
      ((asAddr (tmps.getD p undef)).run P w).andThen fun a w₁ => ((loadVar ty a).run P w₁).andThen fun v w₂ => .ok (.tuple #[v, tmps.getD u undef]) w₂ := by
  simp only [results, h]
  simp [Sem.run_bind, Result.andThen]
theorem below_box (w : World) (o : Obj) : Below w.heap.size w (w.alloc o) := (Below.refl _ _).alloc (Nat.le_refl _) _
theorem below_box2 (w : World) (o o' : Obj) : Below w.heap.size w ((w.alloc o).alloc o') := ((Below.refl _ _).alloc (Nat.le_refl _) _).alloc (by simp) _
/-- A block that holds these cells. -/
def Bx (T : TypeId) (w : World) (b : Nat) (cs : Array Value) : Prop := w.heap[b]? = some (.cells cs T (0, 0))
section
variable {T : TypeId} {w w' : World} {b : Nat} {cs : Array Value}
theorem Bx.cell (h : Bx T w b cs) (i : Nat) : w.cell? ⟨b, i, none⟩ = cs[i]? := by unfold Bx at h; simp [World.cell?, h]
theorem Bx.lt (h : Bx T w b cs) : b < w.heap.size := lt_of_block h
theorem Bx.same (h : Bx T w b cs) (hb : w'.heap[b]? = w.heap[b]?) : Bx T w' b cs := by unfold Bx at h ⊢; rw [hb]; exact h
theorem Bx.below (h : Bx T w b cs) (hb : Below w.heap.size w w') : Bx T w' b cs := h.same (hb.block b h.lt)
theorem Bx.free (h : Bx T w b cs) (i : Nat) : w.frozen? ⟨b, i, none⟩ = false := by unfold Bx at h; simp [World.frozen?, h]
theorem Bx.tch {lo hi : Nat} (h : Bx T w b cs) (hb : Tch lo hi w w') (hd : b < lo ∨ hi ≤ b) : Bx T w' b cs := h.same (hb.block b h.lt hd)
theorem Bx.made (T : TypeId) (w : World) (cs : Array Value) : Bx T (w.alloc (.cells cs T)) w.heap.size cs := heap_alloc_new w _
theorem Bx.up {B : Nat} (h : Bx T w b cs) (hb : Below B w w') (hB : b < B) : Bx T w' b cs := h.same (hb.block b hB)
theorem Bx.set (h : Bx T w b cs) (i : Nat) (v : Value) : Bx T (w.setCell ⟨b, i, none⟩ v) b (cs.setIfInBounds i v) := by
  unfold Bx at h ⊢
  simp [World.setCell, Array.getElem?_modify, h]
theorem Bx.other {c : Nat} (h : Bx T w b cs) (hc : b ≠ c) (i : Nat) (v : Value) : Bx T (w.setCell ⟨c, i, none⟩ v) b cs := h.same (Below.heap_setCell _ _ _ _ hc)
end
/-- What a function of a frame hands back that is a bool, or an integer. -/
def BPost (b : Bool) (w : World) (e : Ending) (w' : World) : Prop := e = .returned (.bool b) ∧ Below w.heap.size w w'
def NPost (n : Int) (w : World) (e : Ending) (w' : World) : Prop := e = .returned (.int .i64 n) ∧ Below w.heap.size w w'
theorem b_parts {a b : Bool} (ht : a = b) {w w' : World} {e : Ending} (h : BPost a w e w') : e = .returned (.bool b) ∧ Below w.heap.size w w' := by subst ht; exact h
theorem n_parts {a b : Int} (ht : a = b) {w w' : World} {e : Ending} (h : NPost a w e w') : e = .returned (.int .i64 b) ∧ Below w.heap.size w w' := by subst ht; exact h

theorem inR (n a b : Int) (v : Bool) (w : World) (h : decide (a ≤ n ∧ n ≤ b) = v) :
    Calls Try.prog 43 #[.int .i64 n, .int .i64 a, .int .i64 b] w fun e w' => e = .returned (.bool v) ∧ w = w' := by
  cases v with
  | true => exact inRange_yes n a b (of_decide_eq_true h) w
  | false => exact inRange_no n a b (of_decide_eq_false h) w
theorem l1R (n a b : Int) (v : Bool) (w : World) (h : decide (a ≤ n ∧ n ≤ b) = v) :
    Calls Try.prog 46 #[.int .i64 n, .int .i64 a, .int .i64 b] w fun e w' => e = .returned (.bool v) ∧ w = w' := by
  cases v with
  | true => exact l1In_yes n a b (of_decide_eq_true h) w
  | false => exact l1In_no n a b (of_decide_eq_false h) w
theorem isKind (k : Int) (v : Bool) (w : World) (h : decide (1 ≤ k ∧ k ≤ 7) = v) :
    Calls Try.prog 74 #[.int .i64 k] w fun e w' => e = .returned (.bool v) ∧ w = w' := by
  have H := Lib.hid h
  clear h
  go_enter Try.func74, Try.ntmps74
  go_wp2_with fail
  (with_reducible refine (inR _ _ _ _ _ H.out).mono ?_)
  rintro e w1 ⟨rfl, rfl⟩
  go_wp2_with fail
  go_ret
  exact ⟨rfl, rfl⟩
theorem isStn (k : Int) (v : Bool) (w : World) (h : decide (0 ≤ k ∧ k ≤ 15) = v) :
    Calls Try.prog 45 #[.int .i64 k] w fun e w' => e = .returned (.bool v) ∧ w = w' := by
  have H := Lib.hid h
  clear h
  go_enter Try.func45, Try.ntmps45
  go_wp2_with fail
  (with_reducible refine (inR _ _ _ _ _ H.out).mono ?_)
  rintro e w1 ⟨rfl, rfl⟩
  go_wp2_with fail
  go_ret
  exact ⟨rfl, rfl⟩
theorem ctl_cases (k : Int) : (k = 2 ∨ k = 3 ∨ k = 4 ∨ k = 7) ∨ ((k == 2) = false ∧ (k == 3) = false ∧ (k == 4) = false ∧ (k == 7) = false ∧ ¬ Ctl k) := by
  by_cases h : Ctl k
  · exact .inl h
  · have h' : ¬ (k = 2 ∨ k = 3 ∨ k = 4 ∨ k = 7) := h
    refine .inr ⟨?_, ?_, ?_, ?_, h⟩ <;> simp <;> omega

theorem implCtl (k : Int) (v : Bool) (w : World) (h : decide (Ctl k) = v) :
    Calls Try.prog 75 #[.int .i64 k] w fun e w' => e = .returned (.bool v) ∧ w = w' := by
  rcases ctl_cases k with (rfl | rfl | rfl | rfl) | ⟨h1, h2, h3, h4, h5⟩
  · obtain rfl : v = true := by rw [← h]; decide
    go_enter Try.func75, Try.ntmps75
    go_wp2
    go_ret
    exact ⟨rfl, rfl⟩
  · obtain rfl : v = true := by rw [← h]; decide
    go_enter Try.func75, Try.ntmps75
    go_wp2
    go_ret
    exact ⟨rfl, rfl⟩
  · obtain rfl : v = true := by rw [← h]; decide
    go_enter Try.func75, Try.ntmps75
    go_wp2
    go_ret
    exact ⟨rfl, rfl⟩
  · obtain rfl : v = true := by rw [← h]; decide
    go_enter Try.func75, Try.ntmps75
    go_wp2
    go_ret
    exact ⟨rfl, rfl⟩
  · obtain rfl : v = false := by rw [← h]; exact decide_eq_false h5
    clear h h5
    go_enter Try.func75, Try.ntmps75
    go_wp2
    go_ret
    exact ⟨rfl, rfl⟩
theorem specCtl (k : Int) (v : Bool) (w : World) (h : decide (Ctl k) = v) :
    Calls Try.prog 47 #[.int .i64 k] w fun e w' => e = .returned (.bool v) ∧ w = w' := by
  rcases ctl_cases k with (rfl | rfl | rfl | rfl) | ⟨h1, h2, h3, h4, h5⟩
  · obtain rfl : v = true := by rw [← h]; decide
    go_enter Try.func47, Try.ntmps47
    go_wp2
    go_ret
    exact ⟨rfl, rfl⟩
  · obtain rfl : v = true := by rw [← h]; decide
    go_enter Try.func47, Try.ntmps47
    go_wp2
    go_ret
    exact ⟨rfl, rfl⟩
  · obtain rfl : v = true := by rw [← h]; decide
    go_enter Try.func47, Try.ntmps47
    go_wp2
    go_ret
    exact ⟨rfl, rfl⟩
  · obtain rfl : v = true := by rw [← h]; decide
    go_enter Try.func47, Try.ntmps47
    go_wp2
    go_ret
    exact ⟨rfl, rfl⟩
  · obtain rfl : v = false := by rw [← h]; exact decide_eq_false h5
    clear h h5
    go_enter Try.func47, Try.ntmps47
    go_wp2
    go_ret
    exact ⟨rfl, rfl⟩

theorem hasK (k f t s g : Int) (m r : Bool) (d : Int) (A : Option Addr) (n cap : Nat) (v : Bool) (w : World) (h : decide (1 ≤ k ∧ k ≤ 7) = v) :
    Calls Try.prog 61 #[.agg #[.int .i64 k, .int .i64 f, .int .i64 t, .int .i64 s, .int .i64 g, .bool m, .bool r, .int .i64 d, .slice A n cap]] w (BPost v w) := by
  have H := Lib.hid h
  clear h
  go_enter Try.func61, Try.ntmps61
  go_wp2_with fail
  (with_reducible refine (isKind _ _ _ H.out).mono ?_)
  rintro e w1 ⟨rfl, rfl⟩
  go_wp2_with fail
  go_ret
  exact ⟨rfl, below_box _ _⟩
theorem hasS (k f t s g : Int) (m r : Bool) (d : Int) (A : Option Addr) (n cap : Nat) (v : Bool) (w : World) (h : decide (0 ≤ f ∧ f ≤ 15) = v) :
    Calls Try.prog 62 #[.agg #[.int .i64 k, .int .i64 f, .int .i64 t, .int .i64 s, .int .i64 g, .bool m, .bool r, .int .i64 d, .slice A n cap]] w (BPost v w) := by
  have H := Lib.hid h
  clear h
  go_enter Try.func62, Try.ntmps62
  go_wp2_with fail
  (with_reducible refine (isStn _ _ _ H.out).mono ?_)
  rintro e w1 ⟨rfl, rfl⟩
  go_wp2_with fail
  go_ret
  exact ⟨rfl, below_box _ _⟩

theorem hasR (k f t s g : Int) (m r : Bool) (d : Int) (A : Option Addr) (n cap : Nat) (v : Bool) (w : World) (h : decide (To k f t) = v) :
    Calls Try.prog 63 #[.agg #[.int .i64 k, .int .i64 f, .int .i64 t, .int .i64 s, .int .i64 g, .bool m, .bool r, .int .i64 d, .slice A n cap]] w (BPost v w) := by
  by_cases ht : t = 63
  · subst ht
    obtain ⟨c, hc⟩ : ∃ c, decide (Ctl k) = c := ⟨_, rfl⟩
    have e : (!c) = v := by
      rw [← h, ← hc]
      by_cases g : Ctl k
      · rw [decide_eq_true g, decide_eq_false (fun h => h.elim (fun h => by omega) (fun h => h.2 g))]; rfl
      · rw [decide_eq_false g, decide_eq_true (.inr ⟨rfl, g⟩)]; rfl
    have H := Lib.hid hc
    have E := Lib.hid e
    clear h hc e
    go_enter Try.func63, Try.ntmps63
    go_wp2_with fail
    (with_reducible refine (implCtl _ _ _ H.out).mono ?_)
    rintro e w1 ⟨rfl, rfl⟩
    go_wp2_with fail
    go_ret
    rw [E.out]
    exact ⟨rfl, below_box _ _⟩
  · have h63 : (t == 63) = false := by simpa using ht
    by_cases hs : 0 ≤ t ∧ t ≤ 15
    · have H := Lib.hid (decide_eq_true hs)
      by_cases htf : t = f
      · subst htf
        have E := Lib.hid (show v = false by rw [← h]; exact decide_eq_false (fun h => h.elim (fun h => h.2 rfl) (fun h => ht h.1)))
        clear h ht hs
        go_enter Try.func63, Try.ntmps63
        go_wp2_with fail
        (with_reducible refine (isStn _ _ _ H.out).mono ?_)
        rintro e w1 ⟨rfl, rfl⟩
        go_wp2_with fail
        go_ret
        rw [E.out]
        exact ⟨rfl, below_box _ _⟩
      · have E := Lib.hid (show v = true by rw [← h]; exact decide_eq_true (.inl ⟨hs, htf⟩))
        have htf' : (t != f) = true := by simpa using htf
        clear h ht hs htf
        go_enter Try.func63, Try.ntmps63
        go_wp2_with fail
        (with_reducible refine (isStn _ _ _ H.out).mono ?_)
        rintro e w1 ⟨rfl, rfl⟩
        go_wp2_with fail
        go_ret
        rw [E.out]
        exact ⟨rfl, below_box _ _⟩
    · have H := Lib.hid (decide_eq_false hs)
      have E := Lib.hid (show v = false by rw [← h]; exact decide_eq_false (fun h => h.elim (fun h => hs h.1) (fun h => ht h.1)))
      clear h ht hs
      go_enter Try.func63, Try.ntmps63
      go_wp2_with fail
      (with_reducible refine (isStn _ _ _ H.out).mono ?_)
      rintro e w1 ⟨rfl, rfl⟩
      go_wp2_with fail
      go_ret
      rw [E.out]
      exact ⟨rfl, below_box _ _⟩

theorem hasN (k f t s g : Int) (m r : Bool) (d : Int) (A : Option Addr) (n cap : Nat) (v : Bool) (w : World) (h : decide (Nr s g d) = v) :
    Calls Try.prog 64 #[.agg #[.int .i64 k, .int .i64 f, .int .i64 t, .int .i64 s, .int .i64 g, .bool m, .bool r, .int .i64 d, .slice A n cap]] w (BPost v w) := by
  by_cases h1 : 0 ≤ s ∧ s ≤ 4095
  · have H1 := Lib.hid (decide_eq_true h1)
    by_cases h2 : 0 ≤ g ∧ g ≤ 15
    · have H2 := Lib.hid (decide_eq_true h2)
      by_cases h3 : 0 ≤ d ∧ d ≤ 1000
      · have H3 := Lib.hid (decide_eq_true h3)
        have E := Lib.hid (show v = true by rw [← h]; exact decide_eq_true ⟨h1, h2, h3⟩)
        clear h h1 h2 h3
        go_enter Try.func64, Try.ntmps64
        go_wp2_with fail
        (with_reducible refine (inR _ _ _ _ _ H1.out).mono ?_)
        rintro e w1 ⟨rfl, rfl⟩
        go_wp2_with fail
        (with_reducible refine (inR _ _ _ _ _ H2.out).mono ?_)
        rintro e w1 ⟨rfl, rfl⟩
        go_wp2_with fail
        (with_reducible refine (inR _ _ _ _ _ H3.out).mono ?_)
        rintro e w1 ⟨rfl, rfl⟩
        go_wp2_with fail
        go_ret
        rw [E.out]
        exact ⟨rfl, below_box _ _⟩
      · have H3 := Lib.hid (decide_eq_false h3)
        have E := Lib.hid (show v = false by rw [← h]; exact decide_eq_false fun g => h3 g.2.2)
        clear h h1 h2 h3
        go_enter Try.func64, Try.ntmps64
        go_wp2_with fail
        (with_reducible refine (inR _ _ _ _ _ H1.out).mono ?_)
        rintro e w1 ⟨rfl, rfl⟩
        go_wp2_with fail
        (with_reducible refine (inR _ _ _ _ _ H2.out).mono ?_)
        rintro e w1 ⟨rfl, rfl⟩
        go_wp2_with fail
        (with_reducible refine (inR _ _ _ _ _ H3.out).mono ?_)
        rintro e w1 ⟨rfl, rfl⟩
        go_wp2_with fail
        go_ret
        rw [E.out]
        exact ⟨rfl, below_box _ _⟩
    · have H2 := Lib.hid (decide_eq_false h2)
      have E := Lib.hid (show v = false by rw [← h]; exact decide_eq_false fun g => h2 g.2.1)
      clear h h1 h2
      go_enter Try.func64, Try.ntmps64
      go_wp2_with fail
      (with_reducible refine (inR _ _ _ _ _ H1.out).mono ?_)
      rintro e w1 ⟨rfl, rfl⟩
      go_wp2_with fail
      (with_reducible refine (inR _ _ _ _ _ H2.out).mono ?_)
      rintro e w1 ⟨rfl, rfl⟩
      go_wp2_with fail
      go_ret
      rw [E.out]
      exact ⟨rfl, below_box _ _⟩
  · have H1 := Lib.hid (decide_eq_false h1)
    have E := Lib.hid (show v = false by rw [← h]; exact decide_eq_false fun g => h1 g.1)
    clear h h1
    go_enter Try.func64, Try.ntmps64
    go_wp2_with fail
    (with_reducible refine (inR _ _ _ _ _ H1.out).mono ?_)
    rintro e w1 ⟨rfl, rfl⟩
    go_wp2_with fail
    go_ret
    rw [E.out]
    exact ⟨rfl, below_box _ _⟩

theorem hasB (k f t s g : Int) (m r : Bool) (d : Int) (A : Option Addr) (n cap : Nat) (v : Bool) (w : World) (h : decide (Bd k n) = v) :
    Calls Try.prog 65 #[.agg #[.int .i64 k, .int .i64 f, .int .i64 t, .int .i64 s, .int .i64 g, .bool m, .bool r, .int .i64 d, .slice A n cap]] w (BPost v w) := by
  by_cases hc : Ctl k
  · have H := Lib.hid (decide_eq_true hc)
    by_cases h0 : n = 0
    · subst h0
      have E := Lib.hid (show v = true by rw [← h]; exact decide_eq_true ⟨by omega, .inl rfl⟩)
      clear h hc
      go_enter Try.func65, Try.ntmps65
      go_wp2_with fail
      (with_reducible refine (implCtl _ _ _ H.out).mono ?_)
      rintro e w1 ⟨rfl, rfl⟩
      go_wp2_with fail
      go_ret
      rw [E.out]
      exact ⟨rfl, below_box _ _⟩
    · have E := Lib.hid (show v = false by rw [← h]; exact decide_eq_false fun g => g.2.elim h0 (fun g => g hc))
      have h1 : ((n : Int) == 0) = false := by simpa using h0
      clear h hc h0
      go_enter Try.func65, Try.ntmps65
      go_wp2_with fail
      (with_reducible refine (implCtl _ _ _ H.out).mono ?_)
      rintro e w1 ⟨rfl, rfl⟩
      go_wp2_with fail
      go_ret
      rw [E.out]
      exact ⟨rfl, below_box _ _⟩
  · have H := Lib.hid (decide_eq_false hc)
    by_cases h0 : n ≤ 100
    · have E := Lib.hid (show v = true by rw [← h]; exact decide_eq_true ⟨h0, .inr hc⟩)
      have h1 : decide ((n : Int) ≤ 100) = true := decide_eq_true (by omega)
      clear h hc h0
      go_enter Try.func65, Try.ntmps65
      go_wp2_with fail
      (with_reducible refine (implCtl _ _ _ H.out).mono ?_)
      rintro e w1 ⟨rfl, rfl⟩
      go_wp2_with fail
      go_ret
      rw [E.out]
      exact ⟨rfl, below_box _ _⟩
    · have E := Lib.hid (show v = false by rw [← h]; exact decide_eq_false fun g => h0 g.1)
      have h1 : decide ((n : Int) ≤ 100) = false := decide_eq_false (by omega)
      clear h hc h0
      go_enter Try.func65, Try.ntmps65
      go_wp2_with fail
      (with_reducible refine (implCtl _ _ _ H.out).mono ?_)
      rintro e w1 ⟨rfl, rfl⟩
      go_wp2_with fail
      go_ret
      rw [E.out]
      exact ⟨rfl, below_box _ _⟩
set_option maxRecDepth 100000 in
set_option maxHeartbeats 4000000 in
theorem implVf (k f t s g : Int) (m r : Bool) (d : Int) (A : Option Addr) (n cap : Nat) (z : List Int) (hz : z.length = n) (w : World) :
    Calls Try.prog 42 #[.agg #[.int .i64 k, .int .i64 f, .int .i64 t, .int .i64 s, .int .i64 g, .bool m, .bool r, .int .i64 d, .slice A n cap]] w (BPost (decide (Vf ⟨k, f, t, s, g, m, r, d, z⟩)) w) := by
  obtain ⟨v, hv⟩ : ∃ v, decide (Vf ⟨k, f, t, s, g, m, r, d, z⟩) = v := ⟨_, rfl⟩
  have HV := Lib.hid hv
  have HV2 := Lib.hid (show (((1 ≤ k ∧ k ≤ 7) ∧ (0 ≤ f ∧ f ≤ 15) ∧ To k f t ∧ Nr s g d ∧ Bd k n) → v = true) ∧ (¬ ((1 ≤ k ∧ k ≤ 7) ∧ (0 ≤ f ∧ f ≤ 15) ∧ To k f t ∧ Nr s g d ∧ Bd k n) → v = false) from
    ⟨fun h => by rw [← hv]; exact decide_eq_true (show Vf _ by unfold Vf; rw [hz]; exact h), fun h => by rw [← hv]; exact decide_eq_false (show ¬ Vf _ by unfold Vf; rw [hz]; exact h)⟩)
  rw [hv]
  clear hv hz
  have x0 : ∀ w : World, (Instr.index 70 (.agg #[.func (.func 61) #[] #[], .func (.func 62) #[] #[], .func (.func 63) #[] #[], .func (.func 64) #[] #[], .func (.func 65) #[] #[]]) (.int .i64 0)).run Try.prog w = .ok (.func (.func 61) #[] #[]) w := fun _ => by kernel_rfl
  have x1 : ∀ w : World, (Instr.index 70 (.agg #[.func (.func 61) #[] #[], .func (.func 62) #[] #[], .func (.func 63) #[] #[], .func (.func 64) #[] #[], .func (.func 65) #[] #[]]) (.int .i64 1)).run Try.prog w = .ok (.func (.func 62) #[] #[]) w := fun _ => by kernel_rfl
  have x2 : ∀ w : World, (Instr.index 70 (.agg #[.func (.func 61) #[] #[], .func (.func 62) #[] #[], .func (.func 63) #[] #[], .func (.func 64) #[] #[], .func (.func 65) #[] #[]]) (.int .i64 2)).run Try.prog w = .ok (.func (.func 63) #[] #[]) w := fun _ => by kernel_rfl
  have x3 : ∀ w : World, (Instr.index 70 (.agg #[.func (.func 61) #[] #[], .func (.func 62) #[] #[], .func (.func 63) #[] #[], .func (.func 64) #[] #[], .func (.func 65) #[] #[]]) (.int .i64 3)).run Try.prog w = .ok (.func (.func 64) #[] #[]) w := fun _ => by kernel_rfl
  have x4 : ∀ w : World, (Instr.index 70 (.agg #[.func (.func 61) #[] #[], .func (.func 62) #[] #[], .func (.func 63) #[] #[], .func (.func 64) #[] #[], .func (.func 65) #[] #[]]) (.int .i64 4)).run Try.prog w = .ok (.func (.func 65) #[] #[]) w := fun _ => by kernel_rfl
  go_enter Try.func42, Try.ntmps42
  go_wp2_with fail
  go_loopw [8] (fun i wr => ((i = .int .i64 0) ∨ (i = .int .i64 1 ∧ (1 ≤ k ∧ k ≤ 7)) ∨ (i = .int .i64 2 ∧ (1 ≤ k ∧ k ≤ 7) ∧ (0 ≤ f ∧ f ≤ 15)) ∨ (i = .int .i64 3 ∧ (1 ≤ k ∧ k ≤ 7) ∧ (0 ≤ f ∧ f ≤ 15) ∧ (To k f t)) ∨ (i = .int .i64 4 ∧ (1 ≤ k ∧ k ≤ 7) ∧ (0 ≤ f ∧ f ≤ 15) ∧ (To k f t) ∧ (Nr s g d)) ∨ (i = .int .i64 5 ∧ (1 ≤ k ∧ k ≤ 7) ∧ (0 ≤ f ∧ f ≤ 15) ∧ (To k f t) ∧ (Nr s g d) ∧ (Bd k n))) ∧ Bx 27 wr w.heap.size #[.int .i64 k, .int .i64 f, .int .i64 t, .int .i64 s, .int .i64 g, .bool m, .bool r, .int .i64 d, .slice A n cap] ∧ Below w.heap.size w wr) (fun i _ => 5 - (intOf i).toNat)
  case atStart => exact ⟨.inl rfl, (Bx.made _ _ _).below (below_box _ _), below_box2 _ _ _⟩
  case round =>
    obtain ⟨w1, rfl⟩ : ∃ w1, w1 = wr := ⟨wr, rfl⟩
    obtain ⟨hi, hx, hb⟩ := hrel
    have X1 := Lib.hid hx
    have B1 := Lib.hid hb
    clear hx hb
    rcases hi with rfl | ⟨rfl, g0⟩ | ⟨rfl, g0, g1⟩ | ⟨rfl, g0, g1, g2⟩ | ⟨rfl, g0, g1, g2, g3⟩ | ⟨rfl, g0, g1, g2, g3, g4⟩
    · by_cases hc : 1 ≤ k ∧ k ≤ 7
      · have HD := Lib.hid (decide_eq_true hc)
        have GC := Lib.hid hc
        clear hc
        have c0 : w1.cell? ⟨w.heap.size, 0, none⟩ = some (.int .i64 k) := X1.out.cell 0
        have c1 : w1.cell? ⟨w.heap.size, 1, none⟩ = some (.int .i64 f) := X1.out.cell 1
        have c2 : w1.cell? ⟨w.heap.size, 2, none⟩ = some (.int .i64 t) := X1.out.cell 2
        have c3 : w1.cell? ⟨w.heap.size, 3, none⟩ = some (.int .i64 s) := X1.out.cell 3
        have c4 : w1.cell? ⟨w.heap.size, 4, none⟩ = some (.int .i64 g) := X1.out.cell 4
        have c5 : w1.cell? ⟨w.heap.size, 5, none⟩ = some (.bool m) := X1.out.cell 5
        have c6 : w1.cell? ⟨w.heap.size, 6, none⟩ = some (.bool r) := X1.out.cell 6
        have c7 : w1.cell? ⟨w.heap.size, 7, none⟩ = some (.int .i64 d) := X1.out.cell 7
        have c8 : w1.cell? ⟨w.heap.size, 8, none⟩ = some (.slice A n cap) := X1.out.cell 8
        go_wp2_with fail
        clear c0 c1 c2 c3 c4 c5 c6 c7 c8
        (with_reducible refine (hasK k f t s g m r d A n cap _ _ HD.out).mono ?_)
        rintro e w2 ⟨rfl, hb⟩
        have X2 := Lib.hid (X1.out.below hb)
        have B2 := Lib.hid (B1.out.trans (hb.mono B1.out.size))
        clear hb
        go_wp2_with fail
        go_roundw
        case rel => exact ⟨.inr (.inl ⟨rfl, GC.out⟩), X2.out, B2.out⟩
        case measure => simp [intOf]
      · have HD := Lib.hid (decide_eq_false hc)
        have E := Lib.hid (HV2.out.2 fun h => hc h.1)
        clear hc
        have c0 : w1.cell? ⟨w.heap.size, 0, none⟩ = some (.int .i64 k) := X1.out.cell 0
        have c1 : w1.cell? ⟨w.heap.size, 1, none⟩ = some (.int .i64 f) := X1.out.cell 1
        have c2 : w1.cell? ⟨w.heap.size, 2, none⟩ = some (.int .i64 t) := X1.out.cell 2
        have c3 : w1.cell? ⟨w.heap.size, 3, none⟩ = some (.int .i64 s) := X1.out.cell 3
        have c4 : w1.cell? ⟨w.heap.size, 4, none⟩ = some (.int .i64 g) := X1.out.cell 4
        have c5 : w1.cell? ⟨w.heap.size, 5, none⟩ = some (.bool m) := X1.out.cell 5
        have c6 : w1.cell? ⟨w.heap.size, 6, none⟩ = some (.bool r) := X1.out.cell 6
        have c7 : w1.cell? ⟨w.heap.size, 7, none⟩ = some (.int .i64 d) := X1.out.cell 7
        have c8 : w1.cell? ⟨w.heap.size, 8, none⟩ = some (.slice A n cap) := X1.out.cell 8
        go_wp2_with fail
        clear c0 c1 c2 c3 c4 c5 c6 c7 c8
        (with_reducible refine (hasK k f t s g m r d A n cap _ _ HD.out).mono ?_)
        rintro e w2 ⟨rfl, hb⟩
        have X2 := Lib.hid (X1.out.below hb)
        have B2 := Lib.hid (B1.out.trans (hb.mono B1.out.size))
        clear hb
        go_wp2_with fail
        go_ret
        rw [E.out]
        exact ⟨rfl, B2.out⟩
    · by_cases hc : 0 ≤ f ∧ f ≤ 15
      · have HD := Lib.hid (decide_eq_true hc)
        have G0 := Lib.hid g0
        have GC := Lib.hid hc
        clear hc g0
        have c0 : w1.cell? ⟨w.heap.size, 0, none⟩ = some (.int .i64 k) := X1.out.cell 0
        have c1 : w1.cell? ⟨w.heap.size, 1, none⟩ = some (.int .i64 f) := X1.out.cell 1
        have c2 : w1.cell? ⟨w.heap.size, 2, none⟩ = some (.int .i64 t) := X1.out.cell 2
        have c3 : w1.cell? ⟨w.heap.size, 3, none⟩ = some (.int .i64 s) := X1.out.cell 3
        have c4 : w1.cell? ⟨w.heap.size, 4, none⟩ = some (.int .i64 g) := X1.out.cell 4
        have c5 : w1.cell? ⟨w.heap.size, 5, none⟩ = some (.bool m) := X1.out.cell 5
        have c6 : w1.cell? ⟨w.heap.size, 6, none⟩ = some (.bool r) := X1.out.cell 6
        have c7 : w1.cell? ⟨w.heap.size, 7, none⟩ = some (.int .i64 d) := X1.out.cell 7
        have c8 : w1.cell? ⟨w.heap.size, 8, none⟩ = some (.slice A n cap) := X1.out.cell 8
        go_wp2_with fail
        clear c0 c1 c2 c3 c4 c5 c6 c7 c8
        (with_reducible refine (hasS k f t s g m r d A n cap _ _ HD.out).mono ?_)
        rintro e w2 ⟨rfl, hb⟩
        have X2 := Lib.hid (X1.out.below hb)
        have B2 := Lib.hid (B1.out.trans (hb.mono B1.out.size))
        clear hb
        go_wp2_with fail
        go_roundw
        case rel => exact ⟨.inr (.inr (.inl ⟨rfl, G0.out, GC.out⟩)), X2.out, B2.out⟩
        case measure => simp [intOf]
      · have HD := Lib.hid (decide_eq_false hc)
        have E := Lib.hid (HV2.out.2 fun h => hc h.2.1)
        clear hc g0
        have c0 : w1.cell? ⟨w.heap.size, 0, none⟩ = some (.int .i64 k) := X1.out.cell 0
        have c1 : w1.cell? ⟨w.heap.size, 1, none⟩ = some (.int .i64 f) := X1.out.cell 1
        have c2 : w1.cell? ⟨w.heap.size, 2, none⟩ = some (.int .i64 t) := X1.out.cell 2
        have c3 : w1.cell? ⟨w.heap.size, 3, none⟩ = some (.int .i64 s) := X1.out.cell 3
        have c4 : w1.cell? ⟨w.heap.size, 4, none⟩ = some (.int .i64 g) := X1.out.cell 4
        have c5 : w1.cell? ⟨w.heap.size, 5, none⟩ = some (.bool m) := X1.out.cell 5
        have c6 : w1.cell? ⟨w.heap.size, 6, none⟩ = some (.bool r) := X1.out.cell 6
        have c7 : w1.cell? ⟨w.heap.size, 7, none⟩ = some (.int .i64 d) := X1.out.cell 7
        have c8 : w1.cell? ⟨w.heap.size, 8, none⟩ = some (.slice A n cap) := X1.out.cell 8
        go_wp2_with fail
        clear c0 c1 c2 c3 c4 c5 c6 c7 c8
        (with_reducible refine (hasS k f t s g m r d A n cap _ _ HD.out).mono ?_)
        rintro e w2 ⟨rfl, hb⟩
        have X2 := Lib.hid (X1.out.below hb)
        have B2 := Lib.hid (B1.out.trans (hb.mono B1.out.size))
        clear hb
        go_wp2_with fail
        go_ret
        rw [E.out]
        exact ⟨rfl, B2.out⟩
    · by_cases hc : To k f t
      · have HD := Lib.hid (decide_eq_true hc)
        have G0 := Lib.hid g0
        have G1 := Lib.hid g1
        have GC := Lib.hid hc
        clear hc g0 g1
        have c0 : w1.cell? ⟨w.heap.size, 0, none⟩ = some (.int .i64 k) := X1.out.cell 0
        have c1 : w1.cell? ⟨w.heap.size, 1, none⟩ = some (.int .i64 f) := X1.out.cell 1
        have c2 : w1.cell? ⟨w.heap.size, 2, none⟩ = some (.int .i64 t) := X1.out.cell 2
        have c3 : w1.cell? ⟨w.heap.size, 3, none⟩ = some (.int .i64 s) := X1.out.cell 3
        have c4 : w1.cell? ⟨w.heap.size, 4, none⟩ = some (.int .i64 g) := X1.out.cell 4
        have c5 : w1.cell? ⟨w.heap.size, 5, none⟩ = some (.bool m) := X1.out.cell 5
        have c6 : w1.cell? ⟨w.heap.size, 6, none⟩ = some (.bool r) := X1.out.cell 6
        have c7 : w1.cell? ⟨w.heap.size, 7, none⟩ = some (.int .i64 d) := X1.out.cell 7
        have c8 : w1.cell? ⟨w.heap.size, 8, none⟩ = some (.slice A n cap) := X1.out.cell 8
        go_wp2_with fail
        clear c0 c1 c2 c3 c4 c5 c6 c7 c8
        (with_reducible refine (hasR k f t s g m r d A n cap _ _ HD.out).mono ?_)
        rintro e w2 ⟨rfl, hb⟩
        have X2 := Lib.hid (X1.out.below hb)
        have B2 := Lib.hid (B1.out.trans (hb.mono B1.out.size))
        clear hb
        go_wp2_with fail
        go_roundw
        case rel => exact ⟨.inr (.inr (.inr (.inl ⟨rfl, G0.out, G1.out, GC.out⟩))), X2.out, B2.out⟩
        case measure => simp [intOf]
      · have HD := Lib.hid (decide_eq_false hc)
        have E := Lib.hid (HV2.out.2 fun h => hc h.2.2.1)
        clear hc g0 g1
        have c0 : w1.cell? ⟨w.heap.size, 0, none⟩ = some (.int .i64 k) := X1.out.cell 0
        have c1 : w1.cell? ⟨w.heap.size, 1, none⟩ = some (.int .i64 f) := X1.out.cell 1
        have c2 : w1.cell? ⟨w.heap.size, 2, none⟩ = some (.int .i64 t) := X1.out.cell 2
        have c3 : w1.cell? ⟨w.heap.size, 3, none⟩ = some (.int .i64 s) := X1.out.cell 3
        have c4 : w1.cell? ⟨w.heap.size, 4, none⟩ = some (.int .i64 g) := X1.out.cell 4
        have c5 : w1.cell? ⟨w.heap.size, 5, none⟩ = some (.bool m) := X1.out.cell 5
        have c6 : w1.cell? ⟨w.heap.size, 6, none⟩ = some (.bool r) := X1.out.cell 6
        have c7 : w1.cell? ⟨w.heap.size, 7, none⟩ = some (.int .i64 d) := X1.out.cell 7
        have c8 : w1.cell? ⟨w.heap.size, 8, none⟩ = some (.slice A n cap) := X1.out.cell 8
        go_wp2_with fail
        clear c0 c1 c2 c3 c4 c5 c6 c7 c8
        (with_reducible refine (hasR k f t s g m r d A n cap _ _ HD.out).mono ?_)
        rintro e w2 ⟨rfl, hb⟩
        have X2 := Lib.hid (X1.out.below hb)
        have B2 := Lib.hid (B1.out.trans (hb.mono B1.out.size))
        clear hb
        go_wp2_with fail
        go_ret
        rw [E.out]
        exact ⟨rfl, B2.out⟩
    · by_cases hc : Nr s g d
      · have HD := Lib.hid (decide_eq_true hc)
        have G0 := Lib.hid g0
        have G1 := Lib.hid g1
        have G2 := Lib.hid g2
        have GC := Lib.hid hc
        clear hc g0 g1 g2
        have c0 : w1.cell? ⟨w.heap.size, 0, none⟩ = some (.int .i64 k) := X1.out.cell 0
        have c1 : w1.cell? ⟨w.heap.size, 1, none⟩ = some (.int .i64 f) := X1.out.cell 1
        have c2 : w1.cell? ⟨w.heap.size, 2, none⟩ = some (.int .i64 t) := X1.out.cell 2
        have c3 : w1.cell? ⟨w.heap.size, 3, none⟩ = some (.int .i64 s) := X1.out.cell 3
        have c4 : w1.cell? ⟨w.heap.size, 4, none⟩ = some (.int .i64 g) := X1.out.cell 4
        have c5 : w1.cell? ⟨w.heap.size, 5, none⟩ = some (.bool m) := X1.out.cell 5
        have c6 : w1.cell? ⟨w.heap.size, 6, none⟩ = some (.bool r) := X1.out.cell 6
        have c7 : w1.cell? ⟨w.heap.size, 7, none⟩ = some (.int .i64 d) := X1.out.cell 7
        have c8 : w1.cell? ⟨w.heap.size, 8, none⟩ = some (.slice A n cap) := X1.out.cell 8
        go_wp2_with fail
        clear c0 c1 c2 c3 c4 c5 c6 c7 c8
        (with_reducible refine (hasN k f t s g m r d A n cap _ _ HD.out).mono ?_)
        rintro e w2 ⟨rfl, hb⟩
        have X2 := Lib.hid (X1.out.below hb)
        have B2 := Lib.hid (B1.out.trans (hb.mono B1.out.size))
        clear hb
        go_wp2_with fail
        go_roundw
        case rel => exact ⟨.inr (.inr (.inr (.inr (.inl ⟨rfl, G0.out, G1.out, G2.out, GC.out⟩)))), X2.out, B2.out⟩
        case measure => simp [intOf]
      · have HD := Lib.hid (decide_eq_false hc)
        have E := Lib.hid (HV2.out.2 fun h => hc h.2.2.2.1)
        clear hc g0 g1 g2
        have c0 : w1.cell? ⟨w.heap.size, 0, none⟩ = some (.int .i64 k) := X1.out.cell 0
        have c1 : w1.cell? ⟨w.heap.size, 1, none⟩ = some (.int .i64 f) := X1.out.cell 1
        have c2 : w1.cell? ⟨w.heap.size, 2, none⟩ = some (.int .i64 t) := X1.out.cell 2
        have c3 : w1.cell? ⟨w.heap.size, 3, none⟩ = some (.int .i64 s) := X1.out.cell 3
        have c4 : w1.cell? ⟨w.heap.size, 4, none⟩ = some (.int .i64 g) := X1.out.cell 4
        have c5 : w1.cell? ⟨w.heap.size, 5, none⟩ = some (.bool m) := X1.out.cell 5
        have c6 : w1.cell? ⟨w.heap.size, 6, none⟩ = some (.bool r) := X1.out.cell 6
        have c7 : w1.cell? ⟨w.heap.size, 7, none⟩ = some (.int .i64 d) := X1.out.cell 7
        have c8 : w1.cell? ⟨w.heap.size, 8, none⟩ = some (.slice A n cap) := X1.out.cell 8
        go_wp2_with fail
        clear c0 c1 c2 c3 c4 c5 c6 c7 c8
        (with_reducible refine (hasN k f t s g m r d A n cap _ _ HD.out).mono ?_)
        rintro e w2 ⟨rfl, hb⟩
        have X2 := Lib.hid (X1.out.below hb)
        have B2 := Lib.hid (B1.out.trans (hb.mono B1.out.size))
        clear hb
        go_wp2_with fail
        go_ret
        rw [E.out]
        exact ⟨rfl, B2.out⟩
    · by_cases hc : Bd k n
      · have HD := Lib.hid (decide_eq_true hc)
        have G0 := Lib.hid g0
        have G1 := Lib.hid g1
        have G2 := Lib.hid g2
        have G3 := Lib.hid g3
        have GC := Lib.hid hc
        clear hc g0 g1 g2 g3
        have c0 : w1.cell? ⟨w.heap.size, 0, none⟩ = some (.int .i64 k) := X1.out.cell 0
        have c1 : w1.cell? ⟨w.heap.size, 1, none⟩ = some (.int .i64 f) := X1.out.cell 1
        have c2 : w1.cell? ⟨w.heap.size, 2, none⟩ = some (.int .i64 t) := X1.out.cell 2
        have c3 : w1.cell? ⟨w.heap.size, 3, none⟩ = some (.int .i64 s) := X1.out.cell 3
        have c4 : w1.cell? ⟨w.heap.size, 4, none⟩ = some (.int .i64 g) := X1.out.cell 4
        have c5 : w1.cell? ⟨w.heap.size, 5, none⟩ = some (.bool m) := X1.out.cell 5
        have c6 : w1.cell? ⟨w.heap.size, 6, none⟩ = some (.bool r) := X1.out.cell 6
        have c7 : w1.cell? ⟨w.heap.size, 7, none⟩ = some (.int .i64 d) := X1.out.cell 7
        have c8 : w1.cell? ⟨w.heap.size, 8, none⟩ = some (.slice A n cap) := X1.out.cell 8
        go_wp2_with fail
        clear c0 c1 c2 c3 c4 c5 c6 c7 c8
        (with_reducible refine (hasB k f t s g m r d A n cap _ _ HD.out).mono ?_)
        rintro e w2 ⟨rfl, hb⟩
        have X2 := Lib.hid (X1.out.below hb)
        have B2 := Lib.hid (B1.out.trans (hb.mono B1.out.size))
        clear hb
        go_wp2_with fail
        go_roundw
        case rel => exact ⟨.inr (.inr (.inr (.inr (.inr (⟨rfl, G0.out, G1.out, G2.out, G3.out, GC.out⟩))))), X2.out, B2.out⟩
        case measure => simp [intOf]
      · have HD := Lib.hid (decide_eq_false hc)
        have E := Lib.hid (HV2.out.2 fun h => hc h.2.2.2.2)
        clear hc g0 g1 g2 g3
        have c0 : w1.cell? ⟨w.heap.size, 0, none⟩ = some (.int .i64 k) := X1.out.cell 0
        have c1 : w1.cell? ⟨w.heap.size, 1, none⟩ = some (.int .i64 f) := X1.out.cell 1
        have c2 : w1.cell? ⟨w.heap.size, 2, none⟩ = some (.int .i64 t) := X1.out.cell 2
        have c3 : w1.cell? ⟨w.heap.size, 3, none⟩ = some (.int .i64 s) := X1.out.cell 3
        have c4 : w1.cell? ⟨w.heap.size, 4, none⟩ = some (.int .i64 g) := X1.out.cell 4
        have c5 : w1.cell? ⟨w.heap.size, 5, none⟩ = some (.bool m) := X1.out.cell 5
        have c6 : w1.cell? ⟨w.heap.size, 6, none⟩ = some (.bool r) := X1.out.cell 6
        have c7 : w1.cell? ⟨w.heap.size, 7, none⟩ = some (.int .i64 d) := X1.out.cell 7
        have c8 : w1.cell? ⟨w.heap.size, 8, none⟩ = some (.slice A n cap) := X1.out.cell 8
        go_wp2_with fail
        clear c0 c1 c2 c3 c4 c5 c6 c7 c8
        (with_reducible refine (hasB k f t s g m r d A n cap _ _ HD.out).mono ?_)
        rintro e w2 ⟨rfl, hb⟩
        have X2 := Lib.hid (X1.out.below hb)
        have B2 := Lib.hid (B1.out.trans (hb.mono B1.out.size))
        clear hb
        go_wp2_with fail
        go_ret
        rw [E.out]
        exact ⟨rfl, B2.out⟩
    · have E := Lib.hid (HV2.out.1 ⟨g0, g1, g2, g3, g4⟩)
      clear g0 g1 g2 g3 g4
      go_wp2_with fail
      go_ret
      rw [E.out]
      exact ⟨rfl, B1.out⟩
end Go.Proofs.Ytebbnopconbnlaa.fbx
