/- Medium access frames in memory: a block of nine cells; the checks of a frame, IsValidFrame, NeedsAck and ReplyKind, program and specification. Condition: none. -/
import Derived.Test.YtnnlkkohbjolaaaDoorFrm
import Derived.Test.YtnnlkkohbjolaaaDoorOwn
import Derived.Laws.EntriesVeiled
namespace Go.Proofs.YtnnlkkohbjolaaaDoor.fbx
open Go.RowKit sl harn rng frm
set_option linter.unusedVariables false

theorem results_cell1 {fn : Func} {p : Tmp} {ty : TypeId} (h : fn.results = #[.cell p ty]) (tmps : Array Value) (P : Program) (w : World) :
    (results fn tmps).run P w = ((asAddr (tmps.getD p undef)).run P w).andThen fun a w₁ => (loadVar ty a).run P w₁ := by
  simp only [results, h]
  simp [Sem.run_bind, Result.andThen]
theorem results_cell_tmp1 {fn : Func} {p u : Tmp} {ty : TypeId} (h : fn.results = #[.cell p ty, .tmp u]) (tmps : Array Value) (P : Program) (w : World) :
    (results fn tmps).run P w =
      ((asAddr (tmps.getD p undef)).run P w).andThen fun a w₁ => ((loadVar ty a).run P w₁).andThen fun v w₂ => .ok (.tuple #[v, tmps.getD u undef]) w₂ := by
  simp only [results, h]
  simp [Sem.run_bind, Result.andThen]
theorem below_box (w : World) (o : Obj) : Below w.heap.size w (w.alloc o) := (Below.refl _ _).alloc (Nat.le_refl _) _
theorem below_box2 (w : World) (o o' : Obj) : Below w.heap.size w ((w.alloc o).alloc o') := ((Below.refl _ _).alloc (Nat.le_refl _) _).alloc (by simp) _
/-- A block that holds these cells. -/
def Bx (T : TypeId) (w : World) (b : Nat) (cs : Array Value) : Prop := w.heap[b]? = some (.cells cs T (0, 0))
section
variable {T : TypeId} {w w' : World} {b : Nat} {cs : Array Value}
theorem Bx.cell (h : Bx T w b cs) (i : Nat) : w.cell? ⟨b, i, none⟩ = cs[i]? := by unfold Bx at h; simp [World.cell?, h]
theorem Bx.lt (h : Bx T w b cs) : b < w.heap.size := lt_of_block h
theorem Bx.same (h : Bx T w b cs) (hb : w'.heap[b]? = w.heap[b]?) : Bx T w' b cs := by unfold Bx at h ⊢; rw [hb]; exact h
theorem Bx.below (h : Bx T w b cs) (hb : Below w.heap.size w w') : Bx T w' b cs := h.same (hb.block b h.lt)
theorem Bx.free (h : Bx T w b cs) (i : Nat) : w.frozen? ⟨b, i, none⟩ = false := by unfold Bx at h; simp [World.frozen?, h]
theorem Bx.tch {lo hi : Nat} (h : Bx T w b cs) (hb : Tch lo hi w w') (hd : b < lo ∨ hi ≤ b) : Bx T w' b cs := h.same (hb.block b h.lt hd)
theorem Bx.made (T : TypeId) (w : World) (cs : Array Value) : Bx T (w.alloc (.cells cs T)) w.heap.size cs := heap_alloc_new w _
theorem Bx.up {B : Nat} (h : Bx T w b cs) (hb : Below B w w') (hB : b < B) : Bx T w' b cs := h.same (hb.block b hB)
theorem Bx.set (h : Bx T w b cs) (i : Nat) (v : Value) : Bx T (w.setCell ⟨b, i, none⟩ v) b (cs.setIfInBounds i v) := by
  unfold Bx at h ⊢
  simp [World.setCell, Array.getElem?_modify, h]
theorem Bx.other {c : Nat} (h : Bx T w b cs) (hc : b ≠ c) (i : Nat) (v : Value) : Bx T (w.setCell ⟨c, i, none⟩ v) b cs := h.same (Below.heap_setCell _ _ _ _ hc)
end
/-- What a function of a frame hands back that is a bool, or an integer. -/
def BPost (b : Bool) (w : World) (e : Ending) (w' : World) : Prop := e = .returned (.bool b) ∧ Below w.heap.size w w'
def NPost (n : Int) (w : World) (e : Ending) (w' : World) : Prop := e = .returned (.int .i64 n) ∧ Below w.heap.size w w'
theorem b_parts {a b : Bool} (ht : a = b) {w w' : World} {e : Ending} (h : BPost a w e w') : e = .returned (.bool b) ∧ Below w.heap.size w w' := by subst ht; exact h
theorem n_parts {a b : Int} (ht : a = b) {w w' : World} {e : Ending} (h : NPost a w e w') : e = .returned (.int .i64 b) ∧ Below w.heap.size w w' := by subst ht; exact h

theorem inR (n a b : Int) (v : Bool) (w : World) (h : decide (a ≤ n ∧ n ≤ b) = v) :
    Calls Tryd.prog 19 #[.int .i64 n, .int .i64 a, .int .i64 b] w fun e w' => e = .returned (.bool v) ∧ w = w' := by
  cases v with
  | true => exact inRange_yes n a b (of_decide_eq_true h) w
  | false => exact inRange_no n a b (of_decide_eq_false h) w
theorem l1R (n a b : Int) (v : Bool) (w : World) (h : decide (a ≤ n ∧ n ≤ b) = v) :
    Calls Tryd.prog 10 #[.int .i64 n, .int .i64 a, .int .i64 b] w fun e w' => e = .returned (.bool v) ∧ w = w' := by
  cases v with
  | true => exact l1In_yes n a b (of_decide_eq_true h) w
  | false => exact l1In_no n a b (of_decide_eq_false h) w
theorem isKind (k : Int) (v : Bool) (w : World) (h : decide (1 ≤ k ∧ k ≤ 7) = v) :
    Calls Tryd.prog 17 #[.int .i64 k] w fun e w' => e = .returned (.bool v) ∧ w = w' := by
  have H := Lib.hid h
  clear h
  go_enter Tryd.func17, Tryd.ntmps17
  go_wp2_with fail
  (with_reducible refine (inR _ _ _ _ _ H.out).mono ?_)
  rintro e w1 ⟨rfl, rfl⟩
  go_wp2_with fail
  go_ret
  exact ⟨rfl, rfl⟩
theorem ctl_cases (k : Int) : (k = 2 ∨ k = 3 ∨ k = 4 ∨ k = 7) ∨ ((k == 2) = false ∧ (k == 3) = false ∧ (k == 4) = false ∧ (k == 7) = false ∧ ¬ Ctl k) := by
  by_cases h : Ctl k
  · exact .inl h
  · have h' : ¬ (k = 2 ∨ k = 3 ∨ k = 4 ∨ k = 7) := h
    refine .inr ⟨?_, ?_, ?_, ?_, h⟩ <;> simp <;> omega

end Go.Proofs.YtnnlkkohbjolaaaDoor.fbx
