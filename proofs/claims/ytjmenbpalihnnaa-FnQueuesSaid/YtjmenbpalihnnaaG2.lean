/- Merged texts of this seat. Reg: A region that draws its order, by what each operation leaves: one duty for each operation, none for an order. Each operation is shown to leave a value that is right, in whatever order the others came; what is right stays so; one operation that writes (the last in every order) may end the region. Condition: the region's form, a Bool that the kernel reckons. | Stw: A whole variable of many cells stored and handed back in one step, in regions that draw their order and in others; 'clear' of one element of many cells. Condition: none. | Mrw: Slices whose elements are structs of several cells, one of them a slice of bytes: what such a slice that is read holds (Rq), what one of the call's own holds (Oe, Oq), whatever the struct. Condition: none. | Mrs: Rows of elements of several cells: an element stored behind the others, a cell changed, a slice of an element changed, an element removed. Condition: none. | Mra: Appends onto rows of elements of several cells, told exactly: the old slice stays, only its own block may change. Condition: together at most 2^30 elements. | Mrg: Rows of elements of several cells: an element's slice narrowed to its own block, and what stays when it is changed. Condition: none. | Qmm: Messages and queues as data: what each function of the chapter hands back; how a message lies in memory. Condition: none. -/
import Derived.Orders
import Derived.StillTail
import Derived.Below
import Derived.Laws.CopyRow
import Derived.Deep.RegionLaw
import Derived.Deep.MidRow
import Derived.Lib.SliceRun
import Derived.Test.YtjmenbpalihnnaaG1
section
namespace Go.Proofs.Ytjmenbpalihnnaa.reg
open Go Go.RowKit
set_option linter.unusedVariables false

/-- The slot that an operation writes. -/
def dst (ops : Array Oper) (j : Nat) : Option Tmp := (ops[j]?).bind (·.dst)
def look (a : Act) : Option Tmp → Value
  | some d => a.tmps.getD d undef
  | none => undef
/-- The slot that an operation writes, or, of one that writes none, a slot that it refers to. -/
def slot (rf : List (Nat × Tmp)) (j : Nat) : Option Tmp → Option Tmp
  | some d => some d
  | none => rf.lookup j
/-- The value of which it is said what is right. -/
def told (rf : List (Nat × Tmp)) (c : Act) (j : Nat) (v : Value) : Option Tmp → Value
  | some _ => v
  | none => look c (rf.lookup j)
/-- No way out but the normal one. -/
def QF : Exit → Act → World → Prop := fun _ _ _ => False
/-- For whatever right values of these operations. -/
def Obs (ops : Array Oper) (R : Nat → Value → World → Prop) (w : World) (body : Act → Prop) : List (Nat × Tmp) → Act → Prop
  | [], b => body b
  | (j, d) :: l, b => ∀ v, R j v w → Obs ops R w body l (b.put (some d) v)
/-- What stood there stands. -/
abbrev Bel (w w' : World) : Prop := Below w.heap.size w w'
/-- One operation's duty. E: how it may change the world. -/
def Ob (E : Nat → World → World → Prop) (rf : List (Nat × Tmp)) (P : Program) (ops : Array Oper) (R : Nat → Value → World → Prop) (C : World → Prop) (a0 : Act) (i : Nat) (o : Oper) (d : List (Nat × Tmp)) : Prop :=
  ∀ w, C w → Obs ops R w (fun c => ∀ K : Act → World → Prop, (∀ v w', R i (told rf c i v o.dst) w' → E i w w' → K (c.put o.dst v) w') →
    if Region.wanted o (yielded ops c.tmps) = true then Oper.wp P o c w K QF else K (c.put o.dst undef) w) d a0
/-- All duties: one for each operation for which a list stands. -/
def All (E : Nat → World → World → Prop) (rf : List (Nat × Tmp)) (P : Program) (ops : Array Oper) (R : Nat → Value → World → Prop) (C : World → Prop) (a0 : Act) : Nat → List Oper → List (Option (List (Nat × Tmp))) → Prop
  | i, o :: l, some d :: nd => Ob E rf P ops R C a0 i o d ∧ All E rf P ops R C a0 (i + 1) l nd
  | i, _ :: l, none :: nd => All E rf P ops R C a0 (i + 1) l nd
  | _, _, _ => True

/-- What is right of a value and stays so. -/
def Stay (E : World → World → Prop) : Type := { p : Value → World → Prop // ∀ v w w', p v w → E w w' → p v w' }
def is {E : World → World → Prop} (x : Value) : Stay E := ⟨fun v _ => v = x, fun _ _ _ h _ => h⟩
/-- What is right of a value alone. -/
def val {E : World → World → Prop} (p : Value → Prop) : Stay E := ⟨fun v _ => p v, fun _ _ _ h _ => h⟩
def free {E : World → World → Prop} : Stay E := ⟨fun _ _ => True, fun _ _ _ _ _ => trivial⟩
def rl {E : World → World → Prop} (l : List (Stay E)) : Nat → Value → World → Prop := fun i v w => (l.getD i free).1 v w
theorem rl_keep {E : World → World → Prop} (l : List (Stay E)) : ∀ j v w w', rl l j v w → E w w' → rl l j v w' := fun j v w w' h hb => (l.getD j free).2 v w w' h hb

theorem edge_of {ops : Array Oper} {j i : Nat} {oj : Oper} (h : Region.waitsFor .any ops j i = true) (hj : ops[j]? = some oj) : ∃ e ∈ oj.after, Region.binds .any e = true ∧ e.on = i := by
  obtain ⟨o, ho, h2⟩ := Region.waitsFor_spec h
  obtain rfl := Option.some.inj (ho.symm.trans hj)
  exact h2
/-- The region's form. s: where the operations begin that end it, each behind the one before it, or a number beyond; N: how many slots; nd: whose values each operation looks at. -/
def okB (ops : Array Oper) (s N : Nat) (rf : List (Nat × Tmp)) (nd : List (Option (List (Nat × Tmp)))) : Bool :=
  let n := ops.size
  Region.noSelect ops &&
  (List.range n).all (fun i => (ops.getD i default).after.all fun e => !Region.binds .any e || decide (e.on < i)) &&
  (List.range n).all (fun i => (List.range n).all fun j => i == j || (dst ops i).isNone || dst ops i != dst ops j) &&
  (List.range n).all (fun i => match dst ops i with | some d => decide (d < N) | none => true) &&
  (decide (n ≤ s) || (List.range s).all fun i => (List.range (s + 1)).any fun j => decide (i < j) && Region.waitsFor .any ops j i) &&
  (List.range n).all (fun t => decide (t ≤ s) || Region.waitsFor .any ops t (t - 1)) &&
  rf.all (fun x => (dst ops x.1).isNone && (nd.getD x.1 none).any (fun d => d.any fun j => j.2 == x.2) && decide (x.1 < s)) &&
  (List.range n).all (fun i => decide (s ≤ i) || match nd[i]? with
    | some (some d) => d.all (fun j => Region.waitsFor .any ops i j.1 && dst ops j.1 == some j.2 && decide (j.1 < s)) && ((ops.getD i default).looksAt ops).all fun k => d.any (fun j => j.2 == k) || (List.range s).all fun j => dst ops j != some k
    | _ => false)

theorem all_get {E : Nat → World → World → Prop} {rf : List (Nat × Tmp)} {P : Program} {ops : Array Oper} {R : Nat → Value → World → Prop} {C : World → Prop} {a0 : Act} : ∀ (l : List Oper) (nd : List (Option (List (Nat × Tmp)))) (k : Nat), All E rf P ops R C a0 k l nd → ∀ (i : Nat) (o : Oper) (d : List (Nat × Tmp)), l[i]? = some o → nd[i]? = some (some d) → Ob E rf P ops R C a0 (k + i) o d
  | [], _, _, _, i, o, d, ho, _ => by simp at ho
  | o :: l, [], _, _, i, _, d, _, hd => by simp at hd
  | o :: l, none :: nd, k, h, 0, _, d, _, hd => by simp at hd
  | o :: l, none :: nd, k, h, i + 1, o', d, ho, hd => by
    have := all_get l nd (k + 1) h i o' d (by simpa using ho) (by simpa using hd)
    rwa [show k + 1 + i = k + (i + 1) by omega] at this
  | o :: l, some e :: nd, k, h, 0, o', d, ho, hd => by
    simp at ho hd
    subst ho hd
    exact h.1
  | o :: l, some e :: nd, k, h, i + 1, o', d, ho, hd => by
    have := all_get l nd (k + 1) h.2 i o' d (by simpa using ho) (by simpa using hd)
    rwa [show k + 1 + i = k + (i + 1) by omega] at this

section
variable {P : Program} {ops : Array Oper} {Q : Exit → Act → World → Prop} {C : World → Prop} {R : Nat → Value → World → Prop} {a0 : Act} {E : Nat → World → World → Prop} {rf : List (Nat × Tmp)}

/-- The frame b with the slots of these operations as they are in a. -/
def puts (ops : Array Oper) (a : Act) : List (Nat × Tmp) → Act → Act
  | [], b => b
  | (j, d) :: l, b => puts ops a l (b.put (some d) (look a (some d)))
theorem obs_puts {w : World} {body : Act → Prop} {a : Act} : ∀ (l : List (Nat × Tmp)) (b : Act), Obs ops R w body l b → (∀ j ∈ l, R j.1 (look a (some j.2)) w) → body (puts ops a l b)
  | [], _, h, _ => h
  | (j, d) :: l, b, h, hR => obs_puts l _ (h _ (hR (j, d) (by simp))) fun k hk => hR k (by simp [hk])
theorem obs_mono {w : World} {f g : Act → Prop} (h : ∀ c, f c → g c) : ∀ (l : List (Nat × Tmp)) (b : Act), Obs ops R w f l b → Obs ops R w g l b
  | [], b, hh => h b hh
  | (_, _) :: l, b, hh => fun v hv => obs_mono h l _ (hh v hv)
theorem put_size (a : Act) (x : Option Tmp) (v : Value) : (a.put x v).tmps.size = a.tmps.size := by cases x <;> simp [Act.put]
theorem put_defers (a : Act) (x : Option Tmp) (v : Value) : (a.put x v).defers = a.defers := by cases x <;> rfl
theorem put_ne {a : Act} {x : Option Tmp} {v : Value} {k : Nat} (h : x ≠ some k) : (a.put x v).tmps.getD k undef = a.tmps.getD k undef := by
  cases x with
  | none => rfl
  | some d =>
    have hne : d ≠ k := fun e => h (by rw [e])
    simp [Act.put, Array.getElem?_setIfInBounds_ne hne]
theorem put_at {a : Act} {v : Value} {k : Nat} (h : k < a.tmps.size) : (a.put (some k) v).tmps.getD k undef = v := by
  simp [Act.put, h]
theorem beyond {a : Act} {k : Nat} (h : ¬ k < a.tmps.size) : a.tmps.getD k undef = undef := by
  simp [Array.getElem?_eq_none (Nat.le_of_not_lt h)]
theorem puts_size (a : Act) : ∀ (l : List (Nat × Tmp)) (b : Act), (puts ops a l b).tmps.size = b.tmps.size
  | [], _ => rfl
  | (j, d) :: l, b => by rw [puts, puts_size a l, put_size]
theorem puts_defers (a : Act) : ∀ (l : List (Nat × Tmp)) (b : Act), (puts ops a l b).defers = b.defers
  | [], _ => rfl
  | (j, d) :: l, b => by rw [puts, puts_defers a l, put_defers]
theorem puts_kept (a : Act) {k : Nat} : ∀ (l : List (Nat × Tmp)) (b : Act), a.tmps.size = b.tmps.size → b.tmps.getD k undef = a.tmps.getD k undef → (puts ops a l b).tmps.getD k undef = a.tmps.getD k undef
  | [], _, _, h => h
  | (j, d) :: l, b, hs, h => by
    rw [puts]
    refine puts_kept a l _ (by rw [put_size]; exact hs) ?_
    by_cases hk : d = k
    · rw [hk]
      by_cases hlt : k < b.tmps.size
      · rw [put_at hlt]; rfl
      · rw [beyond (by rw [put_size]; exact hlt), beyond (a := a) (by omega)]
    · rw [put_ne (by simpa using hk)]; exact h
theorem puts_in (a : Act) {k : Nat} : ∀ (l : List (Nat × Tmp)) (b : Act), a.tmps.size = b.tmps.size → (∃ j ∈ l, j.2 = k) → (puts ops a l b).tmps.getD k undef = a.tmps.getD k undef
  | [], _, _, h => by obtain ⟨j, hj, _⟩ := h; cases hj
  | (j, d) :: l, b, hs, h => by
    rw [puts]
    by_cases hk : d = k
    · refine puts_kept a l _ (by rw [put_size]; exact hs) ?_
      rw [hk]
      by_cases hlt : k < b.tmps.size
      · rw [put_at hlt]; rfl
      · rw [beyond (by rw [put_size]; exact hlt), beyond (a := a) (by omega)]
    · refine puts_in a l _ (by rw [put_size]; exact hs) ?_
      obtain ⟨i, hi, he⟩ := h
      rcases List.mem_cons.1 hi with rfl | hi
      · exact absurd he hk
      · exact ⟨i, hi, he⟩
theorem act_eq {a b : Act} (h1 : a.tmps.size = b.tmps.size) (h2 : ∀ k, a.tmps.getD k undef = b.tmps.getD k undef) (h3 : a.defers = b.defers) : a = b := by
  obtain ⟨t, d⟩ := a
  obtain ⟨t', d'⟩ := b
  simp only at h1 h2 h3
  subst h3
  have : t = t' := Array.ext h1 fun i hi hi' => by
    have := h2 i
    simp [hi, hi'] at this
    exact this
  rw [this]

/-- Two frames that agree where an operation looks. -/
theorem exec_same {o : Oper} {a c : Act} (hs : ∀ cs b, o.op ≠ .select cs b) (h : ∀ k ∈ o.looksAt ops, a.tmps.getD k undef = c.tmps.getD k undef) : execOp a.eval o = execOp c.eval o :=
  execOp_congr o hs fun x hx => by
    cases x with
    | tmp t => exact h t (List.mem_append_left _ (List.mem_filterMap.2 ⟨.tmp t, by simpa using hx, rfl⟩))
    | _ => rfl
theorem wanted_same {o : Oper} {a c : Act} (hz : a.tmps.size = c.tmps.size) (h : ∀ k ∈ o.looksAt ops, a.tmps.getD k undef = c.tmps.getD k undef) : Region.wanted o (yielded ops a.tmps) = Region.wanted o (yielded ops c.tmps) := by
  unfold Region.wanted
  cases hg : o.guard with
  | none => rfl
  | some gw =>
    obtain ⟨g, want⟩ := gw
    have hy : yielded ops a.tmps g = yielded ops c.tmps g := by
      unfold yielded
      cases ht : (ops[g]?).bind (·.dst) with
      | none => rfl
      | some t =>
        have := h t (List.mem_append_right _ (by rw [hg]; simp [ht]))
        have e : a.tmps[t]? = c.tmps[t]? := by
          by_cases hlt : t < a.tmps.size
          · have hlt' : t < c.tmps.size := hz ▸ hlt
            simp [hlt, hlt'] at this ⊢
            exact this
          · rw [Array.getElem?_eq_none (Nat.le_of_not_lt hlt), Array.getElem?_eq_none (Nat.le_of_not_lt (hz ▸ hlt))]
        simp [e]
    simp [hy]
/-- An operation's way, from one frame to another that agrees where it looks. -/
theorem upon_move {o : Oper} {a c : Act} {K K' : Act → World → Prop} {r : Result Next} (hk : ∀ v w', K (c.put o.dst v) w' → K' (a.put o.dst v) w') (hd : ∀ d w', ¬ K ({ c with defers := d :: c.defers }.put o.dst undef) w')
    (h : o.upon P c K QF r) : o.upon P a K' Q r := by
  cases r with
  | ok n w' =>
    cases n <;> simp only [Oper.upon] at h ⊢
    case value u => exact hk _ _ h
    case skip => exact hk _ _ h
    case defer d => exact absurd h (hd _ _)
    case enter f args =>
      refine Calls.mono h fun e w'' he => ?_
      cases e with
      | returned u => exact hk _ _ he
      | panicked c => exact he.elim
      | outgrown => obtain ⟨_, _, he⟩ := he; exact he.elim
    case row row args => exact Rows.mono h fun u w'' he => hk _ _ he
  | halt x w' =>
    cases x <;> simp only [Oper.upon] at h ⊢
    case panic u => exact h.elim

structure Inv (rf : List (Nat × Tmp)) (C : World → Prop) (R : Nat → Value → World → Prop) (ops : Array Oper) (a0 : Act) (s : Nat) (L : Array Bool) (a : Act) (w : World) : Prop where
  c : C w
  len : L.size = ops.size
  closed : ∀ j oj, ops[j]? = some oj → L.getD j false = true → ∀ e ∈ oj.after, Region.binds .any e = true → L.getD e.on false = true
  tail : ∀ t, s ≤ t → L.getD t false = false
  defers : a.defers = a0.defers
  size : a.tmps.size = a0.tmps.size
  base : ∀ k, (∀ j, L.getD j false = true → dst ops j ≠ some k) → a.tmps.getD k undef = a0.tmps.getD k undef
  right : ∀ j, L.getD j false = true → (slot rf j (dst ops j)).isSome = true → R j (look a (slot rf j (dst ops j))) w

theorem set_at {L : Array Bool} {j : Nat} (hj : j < L.size) : (L.setIfInBounds j true).getD j false = true := by simp [hj]

/-- What the Bool says. -/
structure Ok (ops : Array Oper) (s N : Nat) (rf : List (Nat × Tmp)) (nd : List (Option (List (Nat × Tmp)))) : Prop where
  sel : Region.noSelect ops = true
  back : ∀ i o, ops[i]? = some o → ∀ e ∈ o.after, Region.binds .any e = true → e.on < i
  apart : ∀ i j d, i < ops.size → j < ops.size → i ≠ j → dst ops i = some d → dst ops j ≠ some d
  room : ∀ i d, dst ops i = some d → d < N
  ends : s < ops.size → ∀ i, i < s → ∃ j, j ≤ s ∧ i < j ∧ Region.waitsFor .any ops j i = true
  chain : ∀ t, s < t → t < ops.size → Region.waitsFor .any ops t (t - 1) = true
  refs : ∀ j d, rf.lookup j = some d → dst ops j = none ∧ j < s ∧ ∃ l k, nd[j]? = some (some l) ∧ (k, d) ∈ l
  need : ∀ i o, ops[i]? = some o → i < s → ∃ d, nd[i]? = some (some d) ∧ (∀ j ∈ d, Region.waitsFor .any ops i j.1 = true ∧ dst ops j.1 = some j.2 ∧ j.1 < s) ∧
    ∀ k ∈ o.looksAt ops, (∃ j ∈ d, j.2 = k) ∨ ∀ j, j < s → dst ops j ≠ some k
theorem dst_lt {j : Nat} {d : Tmp} (h : dst ops j = some d) : j < ops.size := by
  unfold dst at h
  rcases Nat.lt_or_ge j ops.size with h' | h'
  · exact h'
  · rw [Array.getElem?_eq_none h'] at h; cases h
theorem ok_of {s N : Nat} {nd : List (Option (List (Nat × Tmp)))} (h : okB ops s N rf nd = true) : Ok ops s N rf nd := by
  unfold okB at h
  simp only [Bool.and_eq_true] at h
  obtain ⟨⟨⟨⟨⟨⟨⟨h1, h4⟩, h5⟩, h6⟩, h7⟩, h9⟩, ha⟩, h8⟩ := h
  have lt_of : ∀ {i : Nat} {o : Oper}, ops[i]? = some o → i < ops.size ∧ ops.getD i default = o := fun {i o} ho => by
    have hi := (Array.getElem?_eq_some_iff.1 ho).1
    exact ⟨hi, by simp [ho]⟩
  refine ⟨h1, fun i o ho e he hb => ?_, fun i j d hi hj hne he => ?_, fun i d hd => ?_, fun hs i hi => ?_, fun t ht hn => ?_, fun j d hl => ?_, fun i o ho hne => ?_⟩
  · obtain ⟨hi, e0⟩ := lt_of ho
    have := List.all_eq_true.1 h4 i (List.mem_range.2 hi)
    rw [e0] at this
    have := Array.all_eq_true_iff_forall_mem.1 this e he
    simpa [hb] using this
  · have := List.all_eq_true.1 (List.all_eq_true.1 h5 i (List.mem_range.2 hi)) j (List.mem_range.2 hj)
    simp [hne, he] at this
    exact fun e => this e.symm
  · have := List.all_eq_true.1 h6 i (List.mem_range.2 (dst_lt hd))
    rw [hd] at this
    simpa using this
  · simp only [Bool.or_eq_true, decide_eq_true_eq] at h7
    rcases h7 with h7 | h7
    · omega
    · obtain ⟨j, hj, hb⟩ := List.any_eq_true.1 (List.all_eq_true.1 h7 i (List.mem_range.2 hi))
      simp only [Bool.and_eq_true, decide_eq_true_eq] at hb
      exact ⟨j, by have := List.mem_range.1 hj; omega, hb.1, hb.2⟩
  · have := List.all_eq_true.1 h9 t (List.mem_range.2 hn)
    simp only [Bool.or_eq_true, decide_eq_true_eq] at this
    rcases this with this | this
    · omega
    · exact this
  · have hm : (j, d) ∈ rf := by
      clear ha h8
      induction rf with
      | nil => cases hl
      | cons x l ih =>
        obtain ⟨x1, x2⟩ := x
        rw [List.lookup_cons] at hl
        split at hl
        · rename_i he
          have he' : j = x1 := by simpa using he
          rw [he', (Option.some.inj hl)]; exact List.mem_cons_self
        · exact List.mem_cons_of_mem _ (ih hl)
    have h := List.all_eq_true.1 ha _ hm
    simp only [Bool.and_eq_true, decide_eq_true_eq, Option.isNone_iff_eq_none] at h
    obtain ⟨⟨h2, h3⟩, hs⟩ := h
    refine ⟨h2, hs, ?_⟩
    rcases Nat.lt_or_ge j nd.length with hj | hj
    · have e : nd.getD j none = nd[j] := by simp [hj]
      rw [e] at h3
      cases hx : nd[j] with
      | none => rw [hx] at h3; cases h3
      | some l =>
        rw [hx] at h3
        obtain ⟨k, hk, he⟩ := List.any_eq_true.1 (by simpa using h3 : l.any (fun k => k.2 == d) = true)
        have he' : k.2 = d := by simpa using he
        exact ⟨l, k.1, by rw [List.getElem?_eq_getElem hj, hx], by rw [← he']; exact hk⟩
    · simp [List.getElem?_eq_none hj] at h3
  · obtain ⟨hi, e0⟩ := lt_of ho
    have := List.all_eq_true.1 h8 i (List.mem_range.2 hi)
    simp only [Bool.or_eq_true, decide_eq_true_eq] at this
    rcases this with this | this
    · omega
    · split at this
      · rename_i d hd
        simp only [Bool.and_eq_true] at this
        refine ⟨d, hd, fun j hj => ?_, fun k hk => ?_⟩
        · have h := List.all_eq_true.1 this.1 j hj
          simp only [Bool.and_eq_true, decide_eq_true_eq, beq_iff_eq] at h
          exact ⟨h.1.1, h.1.2, h.2⟩
        · have h := this.2
          rw [e0] at h
          have h := List.all_eq_true.1 h k hk
          simp only [Bool.or_eq_true] at h
          rcases h with h | h
          · obtain ⟨j, hj, hb⟩ := List.any_eq_true.1 h
            exact .inl ⟨j, hj, by simpa using hb⟩
          · refine .inr fun j hjs he => ?_
            have h := List.all_eq_true.1 h j (List.mem_range.2 hjs)
            rw [he] at h
            simp at h
      · cases this

/-- What is not yet done waits for nothing but what is not yet done: something may come up. -/
theorem some_ready {s N : Nat} {nd : List (Option (List (Nat × Tmp)))} (H : Ok ops s N rf nd) {L : Array Bool} (hl : L.size = ops.size) : ∀ (m j : Nat), j < m → j < ops.size → L.getD j true = false → Region.ready .any ops L ≠ []
  | 0, j, hjm, _, _ => by omega
  | m + 1, j, hjm, hj, hun => by
    by_cases hr : j ∈ Region.ready .any ops L
    · exact fun h => by rw [h] at hr; cases hr
    · have ho : ops[j]? = some ops[j] := Array.getElem?_eq_getElem hj
      have : ∃ e ∈ (ops[j]).after, Region.binds .any e = true ∧ L.getD e.on false = false := by
        refine Classical.byContradiction fun hn => hr (mem_ready.2 ⟨hun, _, ho, fun e he hb => ?_⟩)
        cases hx : L.getD e.on false with
        | true => rfl
        | false => exact absurd ⟨e, he, hb, hx⟩ hn
      obtain ⟨e, he, hb, hx⟩ := this
      have hlt := H.back j _ ho e he hb
      exact some_ready H hl m e.on (by omega) (by omega) (getD_in (by omega) hx)
/-- What ends the region begins when all others are done. -/
theorem tail_last {s N : Nat} {nd : List (Option (List (Nat × Tmp)))} (H : Ok ops s N rf nd) {L : Array Bool} {a : Act} {w : World} (I : Inv rf C R ops a0 s L a w) (hs : s ∈ Region.ready .any ops L) : ∀ (m i : Nat), s - i < m → i < s → L.getD i false = true
  | 0, i, h, _ => by omega
  | m + 1, i, h, hi => by
    obtain ⟨_, os, hos, hall⟩ := mem_ready.1 hs
    have hsl : s < ops.size := (Array.getElem?_eq_some_iff.1 hos).1
    cases hx : L.getD i false with
    | true => rfl
    | false =>
      exfalso
      obtain ⟨j, hj, hij, hw⟩ := H.ends hsl i hi
      by_cases hjs : j = s
      · subst hjs
        obtain ⟨e, he, hb, hon⟩ := edge_of hw hos
        have := hall e he hb
        rw [hon, hx] at this; cases this
      · have h2 := tail_last H I hs m j (by omega) (by omega)
        have hoj : ops[j]? = some (ops[j]'(by omega)) := Array.getElem?_eq_getElem (by omega)
        obtain ⟨e, he, hb, hon⟩ := edge_of hw hoj
        have := I.closed j _ hoj h2 e he hb
        rw [hon, hx] at this; cases this
theorem no_tail {s N : Nat} {nd : List (Option (List (Nat × Tmp)))} (H : Ok ops s N rf nd) {L : Array Bool} {a : Act} {w : World} (I : Inv rf C R ops a0 s L a w) {t : Nat} (ht : s < t) (hr : t ∈ Region.ready .any ops L) : False := by
  obtain ⟨_, o, ho, hall⟩ := mem_ready.1 hr
  obtain ⟨e, he, hb, hon⟩ := edge_of (H.chain t ht (Array.getElem?_eq_some_iff.1 ho).1) ho
  have := hall e he hb
  rw [hon, I.tail (t - 1) (by omega)] at this; cases this

/-- The numbers of the operations that are to be done, and their slots. -/
def heads (ops : Array Oper) (s : Nat) : List (Nat × Tmp) := (List.range s).filterMap fun j => (dst ops j).map fun d => (j, d)
theorem mem_heads {s : Nat} {x : Nat × Tmp} (h : x ∈ heads ops s) : x.1 < s ∧ dst ops x.1 = some x.2 := by
  obtain ⟨j, hr, hj⟩ := List.mem_filterMap.1 h
  obtain ⟨d, hd, rfl⟩ := Option.map_eq_some_iff.1 hj
  exact ⟨List.mem_range.1 hr, hd⟩
theorem to_heads {s j : Nat} {d : Tmp} (h1 : j < s) (h3 : dst ops j = some d) : (j, d) ∈ heads ops s :=
  List.mem_filterMap.2 ⟨j, List.mem_range.2 h1, by rw [h3]; rfl⟩
theorem all_done {s N : Nat} {nd : List (Option (List (Nat × Tmp)))} (H : Ok ops s N rf nd) {L : Array Bool} {a : Act} {w : World} (I : Inv rf C R ops a0 s L a w) (hd : ∀ i, i < s → i < ops.size → L.getD i false = true) {body : Act → Prop}
    (h : Obs ops R w body (heads ops s) a0) : body a := by
  have h1 := obs_puts (a := a) _ _ h fun j hj => by
    obtain ⟨h2, h4⟩ := mem_heads hj
    have := I.right j.1 (hd j.1 h2 (dst_lt h4)) (by rw [h4]; rfl)
    rwa [h4] at this
  have e : puts ops a (heads ops s) a0 = a := act_eq (by rw [puts_size]; exact I.size.symm) (fun k => by
    by_cases hk : ∃ j ∈ heads ops s, j.2 = k
    · exact puts_in a _ _ I.size hk
    · exact puts_kept a _ _ I.size (I.base k fun j hl he => hk ⟨(j, k), to_heads (by
        rcases Nat.lt_or_ge j s with h' | h'
        · exact h'
        · rw [I.tail j h'] at hl; cases hl) he, rfl⟩).symm) (by rw [puts_defers]; exact I.defers.symm)
  rwa [e] at h1
/-- One step. -/
theorem inv_step {s N : Nat} {nd : List (Option (List (Nat × Tmp)))} (H : Ok ops s N rf nd) (hN : a0.tmps.size = N) (hC : ∀ i w w', C w → E i w w' → C w') (hR : ∀ i j v w w', i ≠ j → R j v w → E i w w' → R j v w')
    {L : Array Bool} {a : Act} {w : World} (I : Inv rf C R ops a0 s L a w) {i : Nat} {o : Oper} (ho : ops[i]? = some o) (his : i < s) (hr : i ∈ Region.ready .any ops L) {v : Value} {w' : World} (hv : (slot rf i (dst ops i)).isSome = true → R i (told rf a i v (dst ops i)) w') (hb : E i w w') :
    Inv rf C R ops a0 s (L.setIfInBounds i true) (a.put o.dst v) w' := by
  obtain ⟨hun, o', ho', hall⟩ := mem_ready.1 hr
  obtain rfl : o' = o := Option.some.inj (ho'.symm.trans ho)
  have hd : dst ops i = o'.dst := by unfold dst; rw [ho]; rfl
  have hi : i < ops.size := (Array.getElem?_eq_some_iff.1 ho).1
  have hiL : i < L.size := by rw [I.len]; exact hi
  refine ⟨hC _ _ _ I.c hb, by simp [I.len], fun j oj hj hl e he hbi => ?_, fun t ht => by rw [getD_set_ne false (by omega)]; exact I.tail t ht, by rw [put_defers]; exact I.defers, by rw [put_size]; exact I.size, fun k hk => ?_, fun j hl hsm => ?_⟩
  · by_cases hij : i = j
    · subst hij
      obtain rfl : oj = o' := Option.some.inj (hj.symm.trans ho)
      exact getD_set_true (hall e he hbi)
    · rw [getD_set_ne false hij] at hl
      exact getD_set_true (I.closed j oj hj hl e he hbi)
  · have hik : dst ops i ≠ some k := hk i (set_at hiL)
    rw [put_ne (by rw [← hd]; exact hik)]
    exact I.base k fun j hl => hk j (getD_set_true hl)
  · by_cases hij : i = j
    · subst hij
      have hv' := hv hsm
      cases hdd : dst ops i with
      | some d =>
        rw [hdd] at hv'
        have : look (a.put o'.dst v) (slot rf i (some d)) = v := by
          rw [← hd, hdd]
          exact put_at (by rw [I.size, hN]; exact H.room i d hdd)
        rw [this]; exact hv'
      | none =>
        rw [hdd] at hv'
        have : look (a.put o'.dst v) (slot rf i none) = look a (rf.lookup i) := by rw [← hd, hdd]; rfl
        rw [this]; exact hv'
    · rw [getD_set_ne false hij] at hl
      have keep : look (a.put o'.dst v) (slot rf j (dst ops j)) = look a (slot rf j (dst ops j)) := by
        cases hdd : dst ops j with
        | some d => exact put_ne fun e => H.apart j i d (dst_lt hdd) hi (Ne.symm hij) hdd (by rw [hd]; exact e)
        | none =>
          cases hrf : rf.lookup j with
          | none => simp only [slot, hrf, look]
          | some d =>
            simp only [slot, hrf]
            obtain ⟨_, hjs, l, k, hl1, hkl⟩ := H.refs j d hrf
            have hjn : j < ops.size := by
              rcases Nat.lt_or_ge j ops.size with h' | h'
              · exact h'
              · simp [Array.getElem?_eq_none (show L.size ≤ j by rw [I.len]; exact h')] at hl
            have hoj : ops[j]? = some ops[j] := Array.getElem?_eq_getElem hjn
            obtain ⟨l', hl2, hdep, _⟩ := H.need j _ hoj hjs
            obtain rfl : l' = l := by simpa using hl2.symm.trans hl1
            obtain ⟨h1, h2, _⟩ := hdep (k, d) hkl
            obtain ⟨e, he, hbi, hon⟩ := edge_of h1 hoj
            have hkL := I.closed j _ hoj hl e he hbi
            rw [hon] at hkL
            refine put_ne fun e => ?_
            have hki : k ≠ i := fun e => by subst e; rw [getD_both hun] at hkL; cases hkL
            exact H.apart k i d (dst_lt h2) hi hki h2 (by rw [hd]; exact e)
      rw [keep]
      exact hR i j _ _ _ hij (I.right j hl hsm) hb

theorem step_op {l : List Oper} {s N : Nat} {nd : List (Option (List (Nat × Tmp)))} (H : Ok l.toArray s N rf nd) (hN : a0.tmps.size = N) (hC : ∀ i w w', C w → E i w w' → C w') (hR : ∀ i j v w w', i ≠ j → R j v w → E i w w' → R j v w')
    (hA : All E rf P l.toArray R C a0 0 l nd) {L : Array Bool} {a : Act} {w : World} (I : Inv rf C R l.toArray a0 s L a w) {i : Nat} (his : i < s) (hr : i ∈ Region.ready .any l.toArray L) {K : Act → World → Prop}
    (hK : ∀ a' w', Inv rf C R l.toArray a0 s (L.setIfInBounds i true) a' w' → K a' w') : wpOp P l.toArray Q i K a w := by
  obtain ⟨hun, o, ho, hall⟩ := mem_ready.1 hr
  have hd : dst l.toArray i = o.dst := by unfold dst; rw [ho]; rfl
  obtain ⟨d, hnd, hdep, hlook⟩ := H.need i o ho his
  have hlist : ∀ j ∈ d, L.getD j.1 false = true := fun j hj => by
    obtain ⟨e, he, hb, hon⟩ := edge_of (hdep j hj).1 ho
    rw [← hon]; exact hall e he hb
  have hob : Ob E rf P l.toArray R C a0 i o d := by
    have := all_get l nd 0 hA i o d (by simpa using ho) hnd
    rwa [Nat.zero_add] at this
  have hc := obs_puts (a := a) _ _ (hob w I.c) fun j hj => by
    have := I.right j.1 (hlist j hj) (by rw [(hdep j hj).2.1]; rfl)
    rwa [(hdep j hj).2.1] at this
  have hcs : (puts l.toArray a d a0).tmps.size = a.tmps.size := by rw [puts_size]; exact I.size.symm
  have hag : ∀ k ∈ o.looksAt l.toArray, a.tmps.getD k undef = (puts l.toArray a d a0).tmps.getD k undef := fun k hk => by
    rcases hlook k hk with h | h
    · exact (puts_in a d a0 I.size h).symm
    · refine (puts_kept a d a0 I.size (I.base k fun j hl => h j ?_).symm).symm
      rcases Nat.lt_or_ge j s with h' | h'
      · exact h'
      · rw [I.tail j h'] at hl; cases hl
  have hsel := Region.noSelect_spec H.sel i o
  have h1 := hc (fun a' w' => ∃ v, a' = (puts l.toArray a d a0).put o.dst v ∧ R i (told rf (puts l.toArray a d a0) i v o.dst) w' ∧ E i w w') fun v w' h2 h3 => ⟨v, rfl, h2, h3⟩
  have fin : ∀ v w', (∃ v', (puts l.toArray a d a0).put o.dst v = (puts l.toArray a d a0).put o.dst v' ∧ R i (told rf (puts l.toArray a d a0) i v' o.dst) w' ∧ E i w w') → K (a.put o.dst v) w' := fun v w' ⟨v', e, h2, h3⟩ =>
    hK _ _ (inv_step H hN hC hR I ho his hr (fun hsm => by
      rw [hd] at hsm ⊢
      cases hx' : o.dst with
      | some x =>
        rw [hx'] at e h2
        have hx : dst l.toArray i = some x := by rw [hd]; exact hx'
        have hlt : x < (puts l.toArray a d a0).tmps.size := by rw [puts_size, hN]; exact H.room i x hx
        have h4 : ((puts l.toArray a d a0).put (some x) v).tmps.getD x undef = ((puts l.toArray a d a0).put (some x) v').tmps.getD x undef := by rw [e]
        rw [put_at hlt, put_at hlt] at h4
        show R i v w'
        rw [h4]; exact h2
      | none =>
        rw [hx'] at h2 hsm
        show R i (look a (rf.lookup i)) w'
        have h2' : R i (look (puts l.toArray a d a0) (rf.lookup i)) w' := h2
        obtain ⟨x, hx⟩ := Option.isSome_iff_exists.1 hsm
        have hx2 : rf.lookup i = some x := hx
        rw [hx2] at h2' ⊢
        obtain ⟨_, _, l', k, hl1, hkl⟩ := H.refs i x hx2
        obtain rfl : l' = d := by simpa using hl1.symm.trans hnd
        have e2 : (puts l.toArray a l' a0).tmps.getD x undef = a.tmps.getD x undef := puts_in a l' a0 I.size ⟨(k, x), hkl, rfl⟩
        have e3 : look (puts l.toArray a l' a0) (some x) = look a (some x) := e2
        rw [← e3]; exact h2') h3)
  unfold wpOp
  rw [ho]
  simp only
  rw [wanted_same hcs.symm hag]
  split
  · rename_i hw
    rw [if_pos hw] at h1
    refine .inl ?_
    unfold Oper.wp at h1 ⊢
    rw [exec_same (fun cs b => hsel cs b ho) hag]
    refine upon_move fin (fun dd w' hh => ?_) h1
    obtain ⟨v', e, _⟩ := hh
    have := congrArg Act.defers e
    rw [put_defers, put_defers] at this
    exact absurd (congrArg List.length this) (by simp)
  · rename_i hw
    rw [if_neg hw] at h1
    exact fin _ _ h1

theorem count_set {L : Array Bool} {i : Nat} (h : L.getD i true = false) : (L.setIfInBounds i true).toList.count false + 1 = L.toList.count false := by
  have hi : i < L.size := by
    rcases Nat.lt_or_ge i L.size with h' | h'
    · exact h'
    · simp [Array.getElem?_eq_none h'] at h
  have hx : L[i] = false := by simpa [hi] using h
  have hm : false ∈ L.toList := by rw [← hx]; simp
  have hpos : 0 < L.toList.count false := List.count_pos_iff.2 hm
  rw [Array.toList_setIfInBounds, List.count_set (by simpa using hi)]
  have e : (L.toList[i]'(by simpa using hi) == false) = true := by simp [hx]
  rw [if_pos e, if_neg (by decide)]
  omega
theorem none_left {L : Array Bool} (h : L.toList.count false = 0) (i : Nat) : L.getD i true = true := by
  rcases Nat.lt_or_ge i L.size with h' | h'
  · have := List.count_eq_zero.1 h
    cases hx : L[i] with
    | true => simp [h', hx]
    | false => exact absurd (show false ∈ L.toList by rw [← hx]; simp) this
  · simp [Array.getElem?_eq_none h']

/-- A region without an end of its own, from any state. -/
theorem any_plain {l : List Oper} {N : Nat} {nd : List (Option (List (Nat × Tmp)))} (H : Ok l.toArray l.length N rf nd) (hN : a0.tmps.size = N) (hC : ∀ i w w', C w → E i w w' → C w') (hR : ∀ i j v w w', i ≠ j → R j v w → E i w w' → R j v w')
    (hA : All E rf P l.toArray R C a0 0 l nd) (hF : ∀ w, C w → Obs l.toArray R w (fun c => (∀ x ∈ rf, rf.lookup x.1 = some x.2 → R x.1 (look c (some x.2)) w) → Q .normal c w) (heads l.toArray l.length) a0) : ∀ (fuel : Nat) (L : Array Bool) (a : Act) (w : World), L.toList.count false ≤ fuel → Inv rf C R l.toArray a0 l.length L a w →
    wpAny P .any l.toArray Q fuel L a w := by
  intro fuel
  have fin : ∀ (L : Array Bool) (a : Act) (w : World), Region.ready .any l.toArray L = [] → Inv rf C R l.toArray a0 l.length L a w → Q .normal a w := fun L a w h0 I => by
    have hall : ∀ i, i < l.toArray.size → L.getD i false = true := fun i hi => by
      cases hx : L.getD i false with
      | true => rfl
      | false => exact absurd h0 (some_ready H I.len (i + 1) i (by omega) hi (getD_in (by rw [I.len]; exact hi) hx))
    refine all_done H I (fun i _ hi => hall i hi) (hF w I.c) fun x hx hlk => ?_
    obtain ⟨h1, h2, _⟩ := H.refs x.1 x.2 hlk
    have := I.right x.1 (hall x.1 (by simpa using h2)) (by rw [h1]; simp only [slot, hlk]; rfl)
    rw [h1] at this
    simp only [slot, hlk] at this
    exact this
  induction fuel with
  | zero =>
    intro L a w hc I
    have h0 : Region.ready .any l.toArray L = [] := List.eq_nil_iff_forall_not_mem.2 fun i hi => by
      have := (mem_ready.1 hi).1
      rw [none_left (by omega) i] at this; cases this
    exact ⟨h0, fin L a w h0 I⟩
  | succ fuel ih =>
    intro L a w hc I
    refine ⟨fun h0 => fin L a w h0 I, fun i hi => step_op H hN hC hR hA I ?_ hi fun a' w' I' => ih _ _ _ (by have := count_set (mem_ready.1 hi).1; omega) I'⟩
    obtain ⟨_, o, ho, _⟩ := mem_ready.1 hi
    simpa using (Array.getElem?_eq_some_iff.1 ho).1
/-- Which are done when the end begins. -/
def upTo (n s : Nat) : Array Bool := ((List.range n).map fun i => decide (i < s)).toArray
theorem is_upTo {L : Array Bool} {n s : Nat} (hl : L.size = n) (h1 : ∀ i, i < s → L.getD i false = true) (h2 : ∀ t, s ≤ t → L.getD t false = false) : L = upTo n s := by
  refine Array.ext (by simp [upTo, hl]) fun i hi hi' => ?_
  have e : L[i] = L.getD i false := by simp [hi]
  rw [e]
  simp only [upTo, List.getElem_toArray, List.getElem_map, List.getElem_range]
  rcases Nat.lt_or_ge i s with h' | h'
  · rw [h1 i h', decide_eq_true h']
  · rw [h2 i h', decide_eq_false (by omega)]
theorem count_upTo (n s : Nat) (h : s ≤ n) : (upTo n s).toList.count false = n - s := by
  induction n with
  | zero => simp [upTo]
  | succ n ih =>
    have e : (upTo (n + 1) s).toList = (upTo n s).toList ++ [decide (n < s)] := by simp [upTo, List.range_succ]
    rw [e, List.count_append]
    rcases Nat.lt_or_ge n s with h' | h'
    · have hs : s = n + 1 := by omega
      have h0 : (upTo n s).toList.count false = 0 := List.count_eq_zero.2 fun hm => by
        simp only [upTo, List.mem_map, List.mem_range] at hm
        obtain ⟨i, hi, hh⟩ := hm
        rw [decide_eq_true (by omega)] at hh; cases hh
      rw [h0, decide_eq_true h']; simp; omega
    · rw [ih h', decide_eq_false (by omega)]; simp; omega
/-- A region that a chain of operations from number s on ends, from any state. -/
theorem any_tail {l : List Oper} {s N : Nat} {nd : List (Option (List (Nat × Tmp)))} (hs : s < l.length) (H : Ok l.toArray s N rf nd) (hT : Region.seqB .any l.toArray (l.length - s) s (upTo l.length s) = true) (hN : a0.tmps.size = N) (hC : ∀ i w w', C w → E i w w' → C w')
    (hR : ∀ i j v w w', i ≠ j → R j v w → E i w w' → R j v w') (hA : All E rf P l.toArray R C a0 0 l nd) (hF : ∀ w, C w → Obs l.toArray R w (fun c => wpList P l.toArray Q (l.drop s) c w) (heads l.toArray s) a0) :
    ∀ (fuel : Nat) (L : Array Bool) (a : Act) (w : World), L.toList.count false = fuel → Inv rf C R l.toArray a0 s L a w → wpAny P .any l.toArray Q fuel L a w := by
  have hsl : s < l.toArray.size := by simpa using hs
  intro fuel
  induction fuel with
  | zero =>
    intro L a w hc I
    have h1 := none_left (L := L) (by omega) s
    have h2 := getD_in (by rw [I.len]; exact hsl) (I.tail s (Nat.le_refl _))
    rw [h1] at h2; cases h2
  | succ fuel ih =>
    intro L a w hc I
    by_cases hall : ∀ i, i < s → L.getD i false = true
    · have hu : L = upTo l.length s := is_upTo (by rw [I.len]; simp) hall I.tail
      have hcc := count_upTo l.length s (by omega)
      rw [← hu, hc] at hcc
      have h1 := all_done H I (fun i h _ => hall i h) (hF w I.c)
      have := wpAny_of_seq (md := .any) (Q' := Q) (l.drop s) s L a w (fun j => by simp [List.getElem?_drop]) (by rw [hu, List.length_drop]; exact hT) h1
      rwa [List.length_drop, ← hcc] at this
    · refine ⟨fun h0 => absurd h0 (some_ready H I.len (s + 1) s (by omega) hsl (getD_in (by rw [I.len]; exact hsl) (I.tail s (Nat.le_refl _)))), fun i hi => ?_⟩
      have his : i < s := by
        rcases Nat.lt_trichotomy i s with h | h | h
        · exact h
        · subst h; exact absurd (fun j hj => tail_last H I hi (i - j + 1) j (by omega) hj) hall
        · exact (no_tail H I h hi).elim
      exact step_op H hN hC hR hA I his hi fun a' w' I' => ih _ _ _ (by have := count_set (mem_ready.1 hi).1; omega) I'

theorem inv_start {s : Nat} {w : World} (hc : C w) : Inv rf C R ops a0 s (Array.replicate ops.size false) a0 w :=
  have h0 : ∀ j, (Array.replicate ops.size false).getD j false = false := fun j => by
    rcases Nat.lt_or_ge j ops.size with h | h
    · simp [h]
    · simp [h]
  ⟨hc, by simp, fun j oj _ h1 => (by rw [h0] at h1; cases h1), fun t _ => h0 t, rfl, rfl, fun _ _ => rfl, fun j h1 => (by rw [h0] at h1; cases h1)⟩

/-- **A region that draws its order and that a chain of operations (from number s on) ends.** -/
theorem region_tail {id : Nat} {l : List Oper} {w : World} (E : World → World → Prop) (s N : Nat) (nd : List (Option (List (Nat × Tmp)))) (hd : List (Nat × Tmp)) (C : World → Prop) (R : Nat → Value → World → Prop) (hm : P.follows .mixedOrders = true) (hs : decide (s < l.length) = true) (hB : okB l.toArray s N [] nd = true)
    (hT : Region.seqB .any l.toArray (l.length - s) s (upTo l.length s) = true) (hN : a0.tmps.size = N) (hC : ∀ w w', C w → E w w' → C w') (hR : ∀ j v w w', R j v w → E w w' → R j v w') (h0 : C w.drew) (hH : heads l.toArray s = hd) (hA : All (fun _ => E) [] P l.toArray R C a0 0 l nd)
    (hF : ∀ w, C w → Obs l.toArray R w (fun c => wpList P l.toArray Q (l.drop s) c w) hd a0) : (Code.region id l.toArray true).wp P Q a0 w :=
  wp_region_any hm (by
    subst hH
    exact any_tail (Q := Q) (E := fun _ => E) (rf := []) (of_decide_eq_true hs) (ok_of hB) hT hN (fun _ => hC) (fun _ j v w w' _ => hR j v w w') hA hF _ _ a0 w.drew (by simp) (inv_start h0))
/-- **A region that draws its order and whose operations only make memory.** -/
theorem region_plain {id : Nat} {l : List Oper} {w : World} (E : World → World → Prop) (N : Nat) (nd : List (Option (List (Nat × Tmp)))) (hd : List (Nat × Tmp)) (C : World → Prop) (R : Nat → Value → World → Prop) (hm : P.follows .mixedOrders = true) (hB : okB l.toArray l.length N [] nd = true) (hN : a0.tmps.size = N)
    (hC : ∀ w w', C w → E w w' → C w') (hR : ∀ j v w w', R j v w → E w w' → R j v w') (h0 : C w.drew) (hH : heads l.toArray l.length = hd) (hA : All (fun _ => E) [] P l.toArray R C a0 0 l nd)
    (hF : ∀ w, C w → Obs l.toArray R w (fun c => Q .normal c w) hd a0) : (Code.region id l.toArray true).wp P Q a0 w :=
  wp_region_any hm (by
    subst hH
    exact any_plain (Q := Q) (E := fun _ => E) (rf := []) (ok_of hB) hN (fun _ => hC) (fun _ j v w w' _ => hR j v w w') hA (fun w h => obs_mono (f := fun c => Q .normal c w) (g := fun c => (∀ x ∈ ([] : List (Nat × Tmp)), ([] : List (Nat × Tmp)).lookup x.1 = some x.2 → R x.1 (look c (some x.2)) w) → Q .normal c w) (fun _ q _ => q) _ _ (hF w h)) _ _ a0 w.drew (by simp) (inv_start h0))
/-- **A region that draws its order, each operation with a relation of its own; rf: of which slot's value it is said what an operation without a slot leaves.** In the end what it says of them holds too. -/
theorem region_free {id : Nat} {l : List Oper} {w : World} (E : Nat → World → World → Prop) (N : Nat) (rf : List (Nat × Tmp)) (nd : List (Option (List (Nat × Tmp)))) (hd : List (Nat × Tmp)) (C : World → Prop) (R : Nat → Value → World → Prop) (hm : P.follows .mixedOrders = true) (hB : okB l.toArray l.length N rf nd = true) (hN : a0.tmps.size = N)
    (hC : ∀ i w w', C w → E i w w' → C w') (hR : ∀ i j v w w', i ≠ j → R j v w → E i w w' → R j v w') (h0 : C w.drew) (hH : heads l.toArray l.length = hd) (hA : All E rf P l.toArray R C a0 0 l nd)
    (hF : ∀ w, C w → Obs l.toArray R w (fun c => (∀ x ∈ rf, rf.lookup x.1 = some x.2 → R x.1 (look c (some x.2)) w) → Q .normal c w) hd a0) : (Code.region id l.toArray true).wp P Q a0 w :=
  wp_region_any hm (by
    subst hH
    exact any_plain (Q := Q) (ok_of hB) hN hC hR hA hF _ _ a0 w.drew (by simp) (inv_start h0))
end
end Go.Proofs.Ytjmenbpalihnnaa.reg
end

section
namespace Go.Proofs.Ytjmenbpalihnnaa.stw
open Go.RowKit sl harn bx
set_option linter.unusedVariables false

theorem cells_row {P : Program} {w : World} {b : Nat} {T : TypeId} {cur cells : Array Value} (hX : Bx T w b cur) (hs : cur.size = cells.size) (h1 : cells.all (·.oneCell') = true) : w.setCells b 0 cells.toList = w.setRow b cells := by
  have h2 := run_storeCells_cells (P := P) b 0 cells.toList 0 w (fun j hj => by rw [show 0 + 0 + j = j by omega, hX.cell j]; simp at hj; simp; omega) (fun j hj => by rw [show 0 + 0 + j = j by omega]; exact hX.free j)
    (fun v hv => (Array.all_eq_true_iff_forall_mem.1 h1) v (by simpa using hv))
  have h3 := run_storeCells_at P b 0 T cells.toList 0 cur w hX (by simp; omega) (fun v hv => (Array.all_eq_true_iff_forall_mem.1 h1) v (by simpa using hv))
  have hrow : (cur.toList.take (0 + 0) ++ cells.toList ++ cur.toList.drop (0 + 0 + cells.toList.length)).toArray = cells := by
    rw [Nat.add_zero, Nat.zero_add, List.take_zero, List.drop_eq_nil_of_le (by simp; omega)]
    simp
  rw [hrow] at h3
  rw [h2] at h3
  simpa using h3
structure Put (T : TypeId) (w : World) (b : Nat) (cells : Array Value) (w' : World) : Prop where
  box : Bx T w' b cells
  below : Below b w w'
  other : ∀ j, j ≠ b → w'.heap[j]? = w.heap[j]?
theorem Put.keep {T U : TypeId} {w w' : World} {b c : Nat} {cells cs : Array Value} (h : Put T w b cells w') (hX : Bx U w c cs) (hc : c ≠ b) : Bx U w' c cs := hX.same (h.other c hc)
theorem Put.on {T : TypeId} {w w' v : World} {b B : Nat} {cells : Array Value} (h : Put T w b cells w') (hb : Below B v w) (hB : B ≤ b) : Below B v w' :=
  hb.trans ⟨h.below.os, h.below.tape, h.below.output, h.below.size, fun j hj => h.other j (by omega)⟩
theorem put_row {T : TypeId} {w : World} {b : Nat} {cur cells : Array Value} (hX : Bx T w b cur) : Put T w b cells (w.setRow b cells) :=
  ⟨show _ = _ from setRow_heap w b _ _ T _ hX, ⟨rfl, rfl, rfl, by simp [World.setRow], fun k hk => setRow_other w b k _ (by omega)⟩, fun k hk => setRow_other w b k _ (by omega)⟩
theorem there_of {T : TypeId} {w : World} {b n : Nat} {cs : Array Value} (h : Bx T w b cs) (hn : n ≤ cs.size) : w.there b 0 n := fun j hj => by
  rw [Nat.zero_add, h.cell j]
  exact ⟨by simp; omega, h.free j⟩
theorem range_of {T : TypeId} {w : World} {b : Nat} {cs : Array Value} (h : Bx T w b cs) : w.rangeAt b 0 cs.toList := fun j v hj => by
  rw [Nat.zero_add, h.cell j]; simpa using hj
/-- A whole variable stored, in a region that draws its order. -/
theorem step_store {P : Program} {ops : Array Oper} {ts : Array Value} {o : Oper} {a : Act} {w : World} {K : Act → World → Prop} {Q : Exit → Act → World → Prop} {E : Prop} (hgd : o.guard = none) (ty : TypeId) (x y : Operand) (ho : o.op = .store ty x y)
    (b : Nat) (cells : Array Value) (hx : a.eval x = .pointer (some ⟨b, 0, none⟩)) (hy : a.eval y = .agg cells) (T : TypeId) (cur : Array Value) (hX : Bx T w b cur) (hs : cur.size = cells.size)
    (hi : (P.info? ty).map (·.size) = some cells.size) (h1 : cells.all (·.oneCell') = true) (h : ∀ w', Put T w b cells w' → K (a.put o.dst undef) w') :
    if Region.wanted o (yielded ops ts) = true then Oper.wp P o a w K Q else E := by
  have hw : Region.wanted o (yielded ops ts) = true := by simp [Region.wanted, hgd]
  rw [if_pos hw]
  refine wp_store_mid ty x y ho b 0 cells hx hy (there_of hX (by omega)) hi h1 ?_
  rw [cells_row (P := P) hX hs h1]
  exact h _ (put_row hX)
/-- The same in a region of one order. -/
theorem list_store {P : Program} {ops : Array Oper} {rest : List Oper} {o : Oper} {a : Act} {w : World} {Q : Exit → Act → World → Prop} (hgd : o.guard = none) (ty : TypeId) (x y : Operand) (ho : o.op = .store ty x y)
    (b : Nat) (cells : Array Value) (hx : a.eval x = .pointer (some ⟨b, 0, none⟩)) (hy : a.eval y = .agg cells) (T : TypeId) (cur : Array Value) (hX : Bx T w b cur) (hs : cur.size = cells.size)
    (hi : (P.info? ty).map (·.size) = some cells.size) (h1 : cells.all (·.oneCell') = true) (h : ∀ w', Put T w b cells w' → wpList P ops Q rest (a.put o.dst undef) w') : wpList P ops Q (o :: rest) a w := by
  refine wpList_store_mid hgd ty x y ho b 0 cells hx hy (there_of hX (by omega)) hi h1 ?_
  rw [cells_row (P := P) hX hs h1]
  exact h _ (put_row hX)
theorem list_load {P : Program} {ops : Array Oper} {rest : List Oper} {o : Oper} {a : Act} {w : World} {Q : Exit → Act → World → Prop} (hgd : o.guard = none) (ty : TypeId) (x : Operand) (ho : o.op = .load ty x)
    (b : Nat) (hx : a.eval x = .pointer (some ⟨b, 0, none⟩)) (T : TypeId) (cur : Array Value) (hX : Bx T w b cur) {d : TypeDesc} (hu : P.underlying ty = some d) (hd : d.isRow = true) (hi : (P.info? ty).map (·.size) = some cur.size)
    (h : wpList P ops Q rest (a.put o.dst (.agg cur)) w) : wpList P ops Q (o :: rest) a w := by
  refine wpList_load_mid hgd ty x ho b 0 hx cur.toList d (range_of hX) hu hd (by simpa using hi) ?_
  simpa using h
/-- A whole variable loaded, in a region that draws its order; a part of it. -/
theorem step_load {P : Program} {ops : Array Oper} {ts : Array Value} {o : Oper} {a : Act} {w : World} {K : Act → World → Prop} {Q : Exit → Act → World → Prop} {E : Prop} (hgd : o.guard = none) (ty : TypeId) (x : Operand) (ho : o.op = .load ty x)
    (b : Nat) (hx : a.eval x = .pointer (some ⟨b, 0, none⟩)) (T : TypeId) (cur : Array Value) (hX : Bx T w b cur) {d : TypeDesc} (hu : P.underlying ty = some d) (hd : d.isRow = true) (hi : (P.info? ty).map (·.size) = some cur.size)
    (h : K (a.put o.dst (.agg cur)) w) : if Region.wanted o (yielded ops ts) = true then Oper.wp P o a w K Q else E := by
  have hw : Region.wanted o (yielded ops ts) = true := by simp [Region.wanted, hgd]
  rw [if_pos hw]
  refine wp_load_mid ty x ho b 0 hx cur.toList d (range_of hX) hu hd (by simpa using hi) ?_
  simpa using h
theorem range_part {T : TypeId} {w : World} {b : Nat} {cur : Array Value} (hX : Bx T w b cur) (off : Nat) (cs : List Value) (he : cs = (cur.toList.drop off).take cs.length) : w.rangeAt b off cs := fun j v hj => by
  rw [hX.cell]
  rw [he] at hj
  rw [List.getElem?_take] at hj
  split at hj
  · rw [List.getElem?_drop] at hj; simpa using hj
  · cases hj
theorem step_part {P : Program} {ops : Array Oper} {ts : Array Value} {o : Oper} {a : Act} {w : World} {K : Act → World → Prop} {Q : Exit → Act → World → Prop} {E : Prop} (hgd : o.guard = none) (ty : TypeId) (x : Operand) (ho : o.op = .load ty x)
    (b off : Nat) (cs : List Value) (hx : a.eval x = .pointer (some ⟨b, off, none⟩)) (T : TypeId) (cur : Array Value) (hX : Bx T w b cur) (he : cs = (cur.toList.drop off).take cs.length) {d : TypeDesc} (hu : P.underlying ty = some d) (hd : d.isRow = true) (hi : (P.info? ty).map (·.size) = some cs.length)
    (h : K (a.put o.dst (.agg cs.toArray)) w) : if Region.wanted o (yielded ops ts) = true then Oper.wp P o a w K Q else E := by
  have hw : Region.wanted o (yielded ops ts) = true := by simp [Region.wanted, hgd]
  rw [if_pos hw]
  exact wp_load_mid ty x ho b off hx cs d (range_part hX off cs he) hu hd hi h
/-- A whole variable handed back. -/
theorem back {P : Program} {w : World} {b : Nat} {ty T : TypeId} {cur : Array Value} {d : TypeDesc} (hX : Bx T w b cur) (hu : P.underlying ty = some d) (hd : d.isRow = true) (hi : (P.info? ty).map (·.size) = some cur.size) :
    ((asAddr (.pointer (some ⟨b, 0, none⟩))).run P w).andThen (fun a w₁ => (loadVar ty a).run P w₁) = .ok (.agg cur) w := by
  have := run_loadVar_mid w b 0 ty cur.toList d (range_of hX) hu hd (by simpa using hi)
  rw [Array.toArray_toList] at this
  exact this
theorem back2 {P : Program} {w : World} {b : Nat} {ty T : TypeId} {cur : Array Value} {d : TypeDesc} (hX : Bx T w b cur) (hu : P.underlying ty = some d) (hd : d.isRow = true) (hi : (P.info? ty).map (·.size) = some cur.size) (x : Value) :
    ((asAddr (.pointer (some ⟨b, 0, none⟩))).run P w).andThen (fun a w₁ => ((loadVar ty a).run P w₁).andThen fun v w₂ => Result.ok (Value.tuple #[v, x]) w₂) = Result.ok (Value.tuple #[.agg cur, x]) w := by
  have h := back hX hu hd hi
  have e : ((asAddr (.pointer (some ⟨b, 0, none⟩))).run P w).andThen (fun a w₁ => ((loadVar ty a).run P w₁).andThen fun v w₂ => Result.ok (Value.tuple #[v, x]) w₂) = (((asAddr (.pointer (some ⟨b, 0, none⟩))).run P w).andThen (fun a w₁ => (loadVar ty a).run P w₁)).andThen fun v w₂ => Result.ok (Value.tuple #[v, x]) w₂ := by
    cases (asAddr (.pointer (some ⟨b, 0, none⟩))).run P w <;> rfl
  rw [e, h]
  rfl
/-- A variable that the region makes: where it lies, and what it holds. -/
def mk (T : TypeId) (B : Nat) (cs : Array Value) : reg.Stay reg.Bel := ⟨fun v w => ∃ p, v = .pointer (some ⟨p, 0, none⟩) ∧ B < p ∧ Bx T w p cs, fun v w w' ⟨p, h1, h2, h3⟩ hb => ⟨p, h1, h2, h3.below hb⟩⟩
/-- 'clear' of a slice of one element of many cells. -/
theorem run_clear_one {P : Program} (w : World) (t e ty : TypeId) (zs : Array Value) (ht : P.underlying t = some (.slice e)) (hv : ∀ w, (zeroValue e).run P w = .ok (.agg zs) w) (h1 : zs.all (·.oneCell') = true) (b c : Nat) (T : TypeId) (cur : Array Value) (hX : Bx T w b cur) (hs : cur.size = zs.size) (hz : 0 < zs.size) :
    (Builtin.clear_ #[t] ty #[.slice (some ⟨b, 0, none⟩) 1 c]).run P w = .ok (.tuple #[]) (w.setRow b zs) := by
  have hzc : (Builtin.zeroCells zs 1).toList = zs.toList := by
    simp [Builtin.zeroCells]
    apply List.ext_getElem
    · simp
    · intro i g1 g2
      simp at g1
      have : i < zs.size := by simpa using g2
      simp [Nat.mod_eq_of_lt this]
      exact getElem!_pos zs i this
  have h2 := run_storeCells_cells (P := P) b 0 zs.toList 0 w (fun j hj => by rw [show 0 + 0 + j = j by omega, hX.cell j]; simp at hj; simp; omega) (fun j hj => by rw [show 0 + 0 + j = j by omega]; exact hX.free j)
    (fun v hv => (Array.all_eq_true_iff_forall_mem.1 h1) v (by simpa using hv))
  simp only [Nat.add_zero] at h2
  rw [cells_row (P := P) hX hs h1] at h2
  simp [Builtin.clear_, run_underlying ht, hv, Value.cells, hzc, h2]
end Go.Proofs.Ytjmenbpalihnnaa.stw
end

section
namespace Go.Proofs.Ytjmenbpalihnnaa.mrw
open Go.RowKit sl harn bx
set_option linter.unusedVariables false

/-- How an element lies in memory: its cells, one of them a slice of bytes. -/
structure Sh (α : Type) where
  T : TypeId
  s : Nat
  C : α → Option Addr → Nat → Nat → List Value
  B : α → List Int
  len : ∀ x A n c, (C x A n c).length = s
  one : ∀ x A n c, ∀ u ∈ C x A n c, u.oneCell' = true
  pos : 0 < s
  ne : T ≠ 5
/-- An element with the header of its slice. -/
structure El (α : Type) where
  x : α
  A : Option Addr
  n : Nat
  c : Nat

theorem rangeAt_same {w w' : World} {b o : Nat} {cs : List Value} (h : w.rangeAt b o cs) (hb : w'.heap[b]? = w.heap[b]?) : w'.rangeAt b o cs :=
  fun j v hj => (World.cell?_of_block (w := w) hb).trans (h j v hj)

section
variable {α : Type} (S : Sh α)
def cells (e : El α) : List Value := S.C e.x e.A e.n e.c
def flat (es : List (El α)) : List Value := es.flatMap (cells S)
theorem cells_len (e : El α) : (cells S e).length = S.s := S.len _ _ _ _
theorem flat_len (es : List (El α)) : (flat S es).length = es.length * S.s := by
  induction es with
  | nil => simp [flat]
  | cons e r ih =>
    have h1 : flat S (e :: r) = cells S e ++ flat S r := rfl
    rw [h1, List.length_append, cells_len, ih, List.length_cons, Nat.add_mul, Nat.one_mul, Nat.add_comm]
theorem flat_append (a b : List (El α)) : flat S (a ++ b) = flat S a ++ flat S b := by simp [flat]
theorem flat_one (es : List (El α)) : ∀ u ∈ flat S es, u.oneCell' = true := by
  intro u hu
  obtain ⟨e, _, h2⟩ := List.mem_flatMap.1 hu
  exact S.one _ _ _ _ u h2
theorem flat_at {es : List (El α)} {i : Nat} {e : El α} (h : es[i]? = some e) : ((flat S es).drop (i * S.s)).take S.s = cells S e := by
  induction es generalizing i with
  | nil => simp at h
  | cons f r ih =>
    have h1 : flat S (f :: r) = cells S f ++ flat S r := rfl
    cases i with
    | zero =>
      have : f = e := by simpa using h
      subst this
      rw [h1, Nat.zero_mul, List.drop_zero, List.take_append_of_le_length (by rw [cells_len]; omega), List.take_of_length_le (by rw [cells_len]; omega)]
    | succ i =>
      have h2 : r[i]? = some e := by simpa using h
      rw [h1, Nat.add_mul, Nat.one_mul, List.drop_append, List.drop_eq_nil_of_le (by rw [cells_len]; omega), List.nil_append, cells_len, Nat.add_sub_cancel]
      exact ih h2
theorem flat_cell {es : List (El α)} {i : Nat} {e : El α} (h : es[i]? = some e) {j : Nat} {v : Value} (hv : (cells S e)[j]? = some v) : (flat S es)[i * S.s + j]? = some v := by
  have hj : j < S.s := by have := (List.getElem?_eq_some_iff.1 hv).1; rwa [cells_len] at this
  rw [← flat_at S h, List.getElem?_take, if_pos hj, List.getElem?_drop] at hv
  exact hv
theorem flat_take (es : List (El α)) (k : Nat) : (flat S es).take (k * S.s) = flat S (es.take k) := by
  rcases Nat.lt_or_ge k es.length with h | h
  · conv => lhs; rw [← List.take_append_drop k es, flat_append]
    rw [List.take_append_of_le_length (by rw [flat_len, List.length_take, Nat.min_eq_left (by omega)]; omega), List.take_of_length_le (by rw [flat_len, List.length_take, Nat.min_eq_left (by omega)]; omega)]
  · rw [List.take_of_length_le h, List.take_of_length_le (by rw [flat_len]; exact Nat.mul_le_mul_right _ h)]
theorem flat_drop (es : List (El α)) (k : Nat) : (flat S es).drop (k * S.s) = flat S (es.drop k) := by
  rcases Nat.lt_or_ge k es.length with h | h
  · have e : (flat S (es.take k)).length = k * S.s := by rw [flat_len, List.length_take, Nat.min_eq_left (by omega)]
    conv => lhs; rw [← List.take_append_drop k es, flat_append]
    rw [List.drop_append, e, List.drop_eq_nil_of_le (by omega), Nat.sub_self, List.drop_zero, List.nil_append]
  · rw [List.drop_eq_nil_of_le h, List.drop_eq_nil_of_le (by rw [flat_len]; exact Nat.mul_le_mul_right _ h)]; rfl

/-- An element that is read at a place. -/
def At (w : World) (lo hi b o : Nat) (x : α) : Prop := ∃ A n c, w.rangeAt b o (S.C x A n c) ∧ Rd .u8 w lo hi A n c (S.B x)
/-- A slice of elements that is read. -/
def Rq (w : World) (lo hi : Nat) (A : Option Addr) (n cap : Nat) (xs : List α) : Prop :=
  xs.length = n ∧ n ≤ cap ∧ cap ≤ maxLen ∧ hi ≤ w.heap.size ∧ (0 < n → ∃ b off, A = some ⟨b, off, none⟩ ∧ lo ≤ b ∧ b < hi ∧ ∀ i x, xs[i]? = some x → At S w lo hi b (off + i * S.s) x)
/-- Their slices do not lie in one block. -/
def Ds (es : List (El α)) : Prop := es.Pairwise fun e f => ∀ a b, e.A = some a → f.A = some b → a.block ≠ b.block
/-- A slice of elements of the call's own, with the headers of their slices. -/
structure Oe (w : World) (lo hi : Nat) (A : Option Addr) (n cap : Nat) (es : List (El α)) : Prop where
  row : w.ownsRow lo S.T S.s (.slice A n cap) n (flat S es)
  body : ∀ e ∈ es, Ow 5 .u8 w lo hi e.A e.n e.c (S.B e.x)
  ds : Ds es
  hi_ : hi ≤ w.heap.size
  lt : ∀ g o, A = some ⟨g, o, none⟩ → g < hi
def Oq (w : World) (lo hi : Nat) (A : Option Addr) (n cap : Nat) (xs : List α) : Prop := ∃ es, es.map (·.x) = xs ∧ Oe S w lo hi A n cap es
end

section
variable {α : Type} {S : Sh α} {w w' : World} {lo hi n cap : Nat} {A : Option Addr} {xs : List α} {es : List (El α)}
theorem At.same {b o : Nat} {x : α} (h : At S w lo hi b o x) (hl : lo ≤ b) (hh : b < hi) (hs : w.heap.size ≤ w'.heap.size) (hb : ∀ b, lo ≤ b → b < hi → w'.heap[b]? = w.heap[b]?) : At S w' lo hi b o x := by
  obtain ⟨A, n, c, h1, h2⟩ := h
  exact ⟨A, n, c, rangeAt_same h1 (hb b hl hh), h2.same hs hb⟩
theorem Rq.len (h : Rq S w lo hi A n cap xs) : xs.length = n := h.1
theorem Rq.cap_ (h : Rq S w lo hi A n cap xs) : n ≤ cap ∧ cap ≤ 9223372036854775807 := ⟨h.2.1, by have := h.2.2.1; unfold maxLen at this; omega⟩
theorem Rq.hi_ (h : Rq S w lo hi A n cap xs) : hi ≤ w.heap.size := h.2.2.2.1
theorem Rq.at_ (h : Rq S w lo hi A n cap xs) {i : Nat} (hi' : i < n) : ∃ b off x, A = some ⟨b, off, none⟩ ∧ xs[i]? = some x ∧ lo ≤ b ∧ b < hi ∧ At S w lo hi b (off + i * S.s) x := by
  obtain ⟨b, off, e, h1, h2, h3⟩ := h.2.2.2.2 (by omega)
  have hl : i < xs.length := by rw [h.len]; exact hi'
  exact ⟨b, off, xs[i], e, List.getElem?_eq_getElem hl, h1, h2, h3 i _ (List.getElem?_eq_getElem hl)⟩
theorem Rq.same (h : Rq S w lo hi A n cap xs) (hs : w.heap.size ≤ w'.heap.size) (hb : ∀ b, lo ≤ b → b < hi → w'.heap[b]? = w.heap[b]?) : Rq S w' lo hi A n cap xs := by
  obtain ⟨h1, h2, h3, h4, h5⟩ := h
  refine ⟨h1, h2, h3, by omega, fun hn => ?_⟩
  obtain ⟨b, off, e, g1, g2, g3⟩ := h5 hn
  exact ⟨b, off, e, g1, g2, fun i x hx => (g3 i x hx).same g1 g2 hs hb⟩
theorem Rq.below (h : Rq S w lo hi A n cap xs) (hb : Below w.heap.size w w') : Rq S w' lo hi A n cap xs :=
  h.same hb.size fun b _ hlt => hb.block b (by have := h.hi_; omega)
theorem Rq.tch (h : Rq S w lo hi A n cap xs) {l r : Nat} (hb : Tch l r w w') (hd : hi ≤ l ∨ r ≤ lo) : Rq S w' lo hi A n cap xs :=
  h.same hb.size fun b h1 h2 => hb.block b (by have := h.hi_; omega) (by omega)
theorem Rq.nil (w : World) (A : Option Addr) (cap lo hi : Nat) (hc : cap ≤ maxLen) (hh : hi ≤ w.heap.size) : Rq S w lo hi A 0 cap [] :=
  ⟨rfl, by omega, hc, hh, fun h => absurd h (by omega)⟩

theorem Oe.len (h : Oe S w lo hi A n cap es) : es.length = n := by
  have h1 := h.row.1
  rw [flat_len] at h1
  exact Nat.eq_of_mul_eq_mul_right S.pos h1
theorem Oe.form (h : Oe S w lo hi A n cap es) : (A = none ∧ n = 0 ∧ cap = 0) ∨ ∃ g cur, A = some ⟨g, 0, none⟩ ∧ lo ≤ g ∧ g < hi ∧ w.heap[g]? = some (.cells cur S.T (0, 0)) ∧ n ≤ cap ∧ cap ≤ maxLen ∧ cur.size = cap * S.s ∧ cur.toList.take (n * S.s) = flat S es := by
  rcases h.row.2 with ⟨e, h0⟩ | ⟨g, c, cur, e, h1, h2, h3, h4, h5, h6⟩
  · injection e with e1 e2 e3
    exact Or.inl ⟨e1, e2, e3⟩
  · injection e with e1 e2 e3
    subst e3
    exact Or.inr ⟨g, cur, e1, h1, h.lt g 0 e1, h2, h3, h4, h5, h6⟩
theorem Oe.at_ (h : Oe S w lo hi A n cap es) {i : Nat} {e : El α} (he : es[i]? = some e) : ∃ g, A = some ⟨g, 0, none⟩ ∧ lo ≤ g ∧ g < hi ∧ w.rangeAt g (i * S.s) (cells S e) := by
  have hi' : i < es.length := (List.getElem?_eq_some_iff.1 he).1
  rw [h.len] at hi'
  rcases h.form with ⟨_, h0, _⟩ | ⟨g, cur, rfl, h1, h2, h3, h4, h5, h6, h7⟩
  · omega
  · refine ⟨g, rfl, h1, h2, fun j v hv => ?_⟩
    have hj : j < S.s := by have := (List.getElem?_eq_some_iff.1 hv).1; rwa [cells_len] at this
    have hlt : i * S.s + j < n * S.s := by
      have := Nat.mul_le_mul_right S.s (show i + 1 ≤ n by omega)
      rw [Nat.add_mul, Nat.one_mul] at this
      omega
    rw [h.row.cellAt (i * S.s + j) hlt]
    exact flat_cell S he hv
theorem Oe.rq (h : Oe S w lo hi A n cap es) : Rq S w lo hi A n cap (es.map (·.x)) := by
  have hl := h.len
  rcases h.form with ⟨rfl, rfl, rfl⟩ | ⟨g, cur, rfl, h1, h2, h3, h4, h5, h6, h7⟩
  · exact ⟨by simpa using hl, Nat.le_refl _, by unfold maxLen; omega, h.hi_, fun h => absurd h (by omega)⟩
  · refine ⟨by simpa using hl, h4, h5, h.hi_, fun _ => ⟨g, 0, rfl, h1, h2, fun i x hx => ?_⟩⟩
    rw [List.getElem?_map] at hx
    cases he : es[i]? with
    | none => rw [he] at hx; cases hx
    | some e =>
      rw [he] at hx
      obtain rfl : e.x = x := by simpa using hx
      obtain ⟨g', e1, _, _, hr⟩ := h.at_ he
      injection e1 with e1; injection e1 with e1 _
      subst e1
      refine ⟨e.A, e.n, e.c, by rw [Nat.zero_add]; exact hr, (h.body e (List.mem_of_getElem? he)).rd⟩
theorem Oe.same (h : Oe S w lo hi A n cap es) (hs : w.heap.size ≤ w'.heap.size) (hb : ∀ b, lo ≤ b → b < hi → w'.heap[b]? = w.heap[b]?) : Oe S w' lo hi A n cap es := by
  refine ⟨⟨h.row.1, ?_⟩, fun e he => (h.body e he).same hs hb, h.ds, by have := h.hi_; omega, h.lt⟩
  rcases h.row.2 with h2 | ⟨g, c, cur, e, g1, g2, g3⟩
  · exact Or.inl h2
  · injection e with e1 e2 e3
    refine Or.inr ⟨g, c, cur, by rw [e1, e3], g1, ?_, g3⟩
    rw [hb g g1 (h.lt g 0 e1)]; exact g2
theorem Oe.below (h : Oe S w lo hi A n cap es) (hb : Below w.heap.size w w') : Oe S w' lo hi A n cap es :=
  h.same hb.size fun b _ hlt => hb.block b (by have := h.hi_; omega)
theorem Oe.up (h : Oe S w lo hi A n cap es) : Oe S w lo w.heap.size A n cap es :=
  ⟨h.row, fun e he => (h.body e he).up, h.ds, Nat.le_refl _, fun g o e => by have := h.lt g o e; have := h.hi_; omega⟩
theorem row_down {v : Value} {lo2 : Nat} {T : TypeId} {s m : Nat} {l : List Value} (h : w.ownsRow lo T s v m l) (hl : lo2 ≤ lo) : w.ownsRow lo2 T s v m l := by
  refine ⟨h.1, ?_⟩
  rcases h.2 with h2 | ⟨g, c, cur, e, g1, g2⟩
  · exact Or.inl h2
  · exact Or.inr ⟨g, c, cur, e, by omega, g2⟩
theorem Oe.down {lo2 : Nat} (h : Oe S w lo hi A n cap es) (hl : lo2 ≤ lo) : Oe S w lo2 hi A n cap es :=
  ⟨row_down h.row hl, fun e he => (h.body e he).down hl, h.ds, h.hi_, h.lt⟩
theorem Oe.nil_ (S : Sh α) (w : World) (lo hi : Nat) (hh : hi ≤ w.heap.size) : Oe S w lo hi none 0 0 [] :=
  ⟨⟨by simp [flat], .inl ⟨rfl, rfl⟩⟩, fun _ h => (by cases h), List.Pairwise.nil, hh, fun _ _ e => by cases e⟩
theorem Oe.empty (S : Sh α) (w : World) : Oe S (w.alloc (.cells #[] S.T)) w.heap.size (w.heap.size + 1) (some ⟨w.heap.size, 0, none⟩) 0 0 [] :=
  ⟨⟨by simp [flat], .inr ⟨w.heap.size, 0, #[], rfl, Nat.le_refl _, heap_alloc_new w _, Nat.le_refl _, by unfold maxLen; omega, by simp, by simp [flat]⟩⟩, fun _ h => (by cases h), List.Pairwise.nil, by simp, fun g o e => by
    injection e with e; injection e with e _; omega⟩
/-- A row of zero elements of which none is told. -/
theorem Oe.made (S : Sh α) (w : World) (z : Array Value) (m : Nat) (hm : m ≤ maxLen) (hz : z.size = m * S.s) : Oe S (w.alloc (.cells z S.T)) w.heap.size (w.heap.size + 1) (some ⟨w.heap.size, 0, none⟩) 0 m [] :=
  ⟨⟨by simp [flat], .inr ⟨w.heap.size, m, z, rfl, Nat.le_refl _, heap_alloc_new w _, Nat.zero_le _, hm, hz, by simp [flat]⟩⟩, fun _ h => (by cases h), List.Pairwise.nil, by simp, fun g o e => by
    injection e with e; injection e with e _; omega⟩
/-- A new element whose slice lies above the others. -/
theorem Ds.push (hd : Ds es) (hb : ∀ e ∈ es, Ow 5 .u8 w lo hi e.A e.n e.c (S.B e.x)) {f : El α} {lo2 hi2 : Nat} {w2 : World} {zs : List Int} (hf : Ow 5 .u8 w2 lo2 hi2 f.A f.n f.c zs) (h : hi ≤ lo2) : Ds (es ++ [f]) := by
  refine List.pairwise_append.2 ⟨hd, List.pairwise_singleton _ _, fun e he f' hf' a b ha hb' => ?_⟩
  obtain rfl : f' = f := by simpa using hf'
  rcases (hb e he).form with ⟨h0, _⟩ | ⟨g, cur, h0, _, h2, _⟩
  · rw [h0] at ha; cases ha
  · rcases hf.form with ⟨k0, _⟩ | ⟨g', cur', k0, k1, _⟩
    · rw [k0] at hb'; cases hb'
    · rw [h0] at ha; rw [k0] at hb'
      obtain rfl := Option.some.inj ha
      obtain rfl := Option.some.inj hb'
      show g ≠ g'
      omega
/-- Elements appended. -/
theorem Oe.app {P : Program} (t ty : TypeId) (i : TypeInfo) (z : Value) (h1 : P.underlying t = some (.slice S.T)) (h2 : P.info? S.T = some i) (h3 : i.zero = some z) (h4 : i.size = S.s) (h5 : i.bytes ≤ 128) (h6 : z.cells.size = S.s)
    (h : Oe S w lo hi A n cap es) (ad : Addr) (m c : Nat) (fs : List (El α)) (hm : fs.length = m) (hsrc : ∀ j u, (flat S fs)[j]? = some u → w.cell? (ad.add j) = some u)
    (hb : ∀ f ∈ fs, ∃ lo2 hi2, lo ≤ lo2 ∧ Ow 5 .u8 w lo2 hi2 f.A f.n f.c (S.B f.x)) (hd : Ds (es ++ fs)) (hn : n + m ≤ 1073741824) (hlo : lo ≤ w.heap.size) :
    ∃ A' cap' w', (Builtin.append_ #[t, t] ty #[.slice A n cap, .slice (some ad) m c]).run P w = .ok (.slice A' (n + m) cap') w' ∧ Oe S w' lo w'.heap.size A' (n + m) cap' (es ++ fs) ∧ Below lo w w' := by
  have hb8 : (n + m) * i.bytes ≤ 140737488355328 := by
    have := Nat.mul_le_mul hn h5
    omega
  obtain ⟨v', w', hrun, g1, g2, _, g3⟩ := run_append_own_at (P := P) w lo t ty S.T i z S.s i.bytes h1 h2 h3 h4 rfl h6 S.pos _ n _ h.row ad m c (flat S fs) (by rw [flat_len, hm]) hsrc (flat_one S fs) (by unfold maxLen; omega) hb8 hlo
  rw [← flat_append] at g1
  have hkeep : ∀ (f : El α) (lo2 hi2 : Nat), Ow 5 .u8 w lo2 hi2 f.A f.n f.c (S.B f.x) → Ow 5 .u8 w' lo2 hi2 f.A f.n f.c (S.B f.x) := by
    intro f lo2 hi2 hf
    rcases hf.form with ⟨e1, e2, e3⟩ | ⟨g, cur, e1, k1, k2, k3, k4⟩
    · have hz : S.B f.x = [] := List.eq_nil_of_length_eq_zero (by rw [hf.len, e2])
      rw [e1, e2, e3, hz]
      exact Ow.nil_ _ _ _ _ _ (by have := hf.hi_; have := g2.size; omega)
    · obtain ⟨⟨q1, q2⟩, q3, q4, q5⟩ := hf
      refine ⟨⟨q1, ?_⟩, q3, by have := g2.size; omega, q5⟩
      rcases q2 with q2 | ⟨g', c', cur', e, r1, r2, r3⟩
      · exact Or.inl q2
      · refine Or.inr ⟨g', c', cur', e, r1, ?_, r3⟩
        rw [g2.block g' (lt_of_block r2) ?_]
        · exact r2
        · intro heq
          rcases h.form with ⟨e0, _⟩ | ⟨gr, curr, e0, _, _, s3, _⟩
          · rw [e0] at heq; simp [Value.ownBlock] at heq
          · rw [e0] at heq
            simp only [Value.ownBlock, Option.some.injEq] at heq
            subst heq
            rw [r2] at s3
            simp only [Option.some.injEq, Obj.cells.injEq] at s3
            exact S.ne s3.2.1.symm
  have hB : Below lo w w' := (Below.refl _ _).grown g2 hlo fun q hq => by
    rcases h.form with ⟨e0, _⟩ | ⟨gr, curr, e0, s1, _⟩
    · rw [e0] at hq; simp [Value.ownBlock] at hq
    · rw [e0] at hq; simp [Value.ownBlock] at hq; omega
  have hv : ∃ A' cap', v' = .slice A' (n + m) cap' ∧ ∀ g o, A' = some ⟨g, o, none⟩ → g < w'.heap.size := by
    rcases g1.2 with ⟨rfl, h0⟩ | ⟨g, c, cur, rfl, _, k2, _⟩
    · exact ⟨none, 0, by rw [h0], fun _ _ e => by cases e⟩
    · exact ⟨_, c, rfl, fun g' o e => by injection e with e; injection e with e _; subst e; exact lt_of_block k2⟩
  obtain ⟨A', cap', rfl, hlt⟩ := hv
  refine ⟨A', cap', w', hrun, ⟨g1, fun e he => ?_, hd, Nat.le_refl _, hlt⟩, hB⟩
  rcases List.mem_append.1 he with he | he
  · exact (hkeep e lo hi (h.body e he)).up
  · obtain ⟨lo2, hi2, hl, ho⟩ := hb e he
    exact ((hkeep e lo2 hi2 ho).up).down hl
end
end Go.Proofs.Ytjmenbpalihnnaa.mrw
end

section
namespace Go.Proofs.Ytjmenbpalihnnaa.mrw
open Go.RowKit sl harn bx
set_option linter.unusedVariables false

/-- Cells written one behind the other. -/
def lay (cur : Array Value) : Nat → List Value → Array Value
  | _, [] => cur
  | o, v :: r => lay (cur.setIfInBounds o v) (o + 1) r
theorem lay_size : ∀ (vs : List Value) (cur : Array Value) (o : Nat), (lay cur o vs).size = cur.size
  | [], _, _ => rfl
  | v :: r, cur, o => by rw [lay, lay_size r]; simp
theorem lay_list : ∀ (vs : List Value) (cur : Array Value) (o : Nat), o + vs.length ≤ cur.size → (lay cur o vs).toList = cur.toList.take o ++ vs ++ cur.toList.drop (o + vs.length)
  | [], cur, o, h => by simp [lay]
  | v :: r, cur, o, h => by
    have hl : o < cur.toList.length := by simp at h ⊢; omega
    rw [lay, lay_list r _ _ (by simp at h ⊢; omega), Array.toList_setIfInBounds]
    have e1 : (cur.toList.set o v).take (o + 1) = cur.toList.take o ++ [v] := by
      rw [List.take_set, List.take_add_one, List.getElem?_eq_getElem hl]
      have hlt : (cur.toList.take o).length = o := by rw [List.length_take]; omega
      rw [List.set_append_right _ _ (by omega), hlt, Nat.sub_self]
      rfl
    have e2 : (cur.toList.set o v).drop (o + 1 + r.length) = cur.toList.drop (o + (v :: r).length) := by
      rw [List.drop_set, if_pos (by omega), List.length_cons]
      congr 1; omega
    rw [e1, e2]
    simp
theorem size_setCells (b : Nat) : ∀ (vs : List Value) (o : Nat) (w : World), (w.setCells b o vs).heap.size = w.heap.size
  | [], _, _ => rfl
  | v :: r, o, w => by rw [World.setCells, size_setCells b r]; simp [World.setCell]
theorem heap_setCells_ne {b k : Nat} (h : k ≠ b) : ∀ (vs : List Value) (o : Nat) (w : World), (w.setCells b o vs).heap[k]? = w.heap[k]?
  | [], _, _ => rfl
  | v :: r, o, w => by rw [World.setCells, heap_setCells_ne h r, Below.heap_setCell _ _ _ _ h]
theorem heap_setCells_same {b : Nat} {T : TypeId} : ∀ (vs : List Value) (o : Nat) (w : World) (cur : Array Value), w.heap[b]? = some (.cells cur T (0, 0)) → (w.setCells b o vs).heap[b]? = some (.cells (lay cur o vs) T (0, 0))
  | [], _, _, _, h => h
  | v :: r, o, w, cur, h => by
    rw [World.setCells, lay]
    exact heap_setCells_same r (o + 1) _ _ (heap_setCell_same w b o cur T v h)
theorem below_setCells {B b : Nat} {w0 : World} : ∀ (vs : List Value) (o : Nat) (w : World), Below B w0 w → B ≤ b → Below B w0 (w.setCells b o vs)
  | [], _, _, h, _ => h
  | v :: r, o, w, h, hB => by rw [World.setCells]; exact below_setCells r (o + 1) _ (h.setCell (p := ⟨b, o, none⟩) hB v) hB

section
variable {α : Type} {S : Sh α} {w w' : World} {lo hi n cap : Nat} {A : Option Addr} {xs : List α} {es : List (El α)}
theorem row_at {g : Nat} {T : TypeId} {s m : Nat} {l : List Value} (h : w.ownsRow lo T s (.slice (some ⟨g, 0, none⟩) m cap) m l) : ∃ cur, w.heap[g]? = some (.cells cur T (0, 0)) ∧ lo ≤ g ∧ m ≤ cap ∧ cap ≤ maxLen ∧ cur.size = cap * s ∧ cur.toList.take (m * s) = l := by
  rcases h.2 with ⟨e, _⟩ | ⟨g', c, cur, e, h1, h2, h3, h4, h5, h6⟩
  · cases e
  · injection e with e1 e2 e3
    injection e1 with e1; injection e1 with e1 _
    subst e1 e3
    exact ⟨cur, h2, h1, h3, h4, h5, h6⟩
theorem Oe.there {g : Nat} (h : Oe S w lo hi (some ⟨g, 0, none⟩) n cap es) {k : Nat} (hk : k < cap) : w.there g (k * S.s) S.s := by
  obtain ⟨cur, h1, _, _, _, h5, _⟩ := row_at h.row
  intro j hj
  have hlt : k * S.s + j < cur.size := by
    have := Nat.mul_le_mul_right S.s (show k + 1 ≤ cap by omega)
    rw [Nat.add_mul, Nat.one_mul] at this
    omega
  exact ⟨by rw [cell_of_row w g _ cur S.T (0, 0) h1]; simp; omega, frozen_of_row w g _ cur S.T h1⟩
/-- An element stored behind the others, within the capacity. -/
theorem Oe.put {g : Nat} (h : Oe S w lo hi (some ⟨g, 0, none⟩) n cap es) (hk : n < cap) (f : El α) {lo2 hi2 : Nat} (hf : Ow 5 .u8 w lo2 hi2 f.A f.n f.c (S.B f.x)) (hl : hi ≤ lo2) :
    Oe S (w.setCells g (n * S.s) (cells S f)) lo w.heap.size (some ⟨g, 0, none⟩) (n + 1) cap (es ++ [f]) := by
  obtain ⟨cur, h1, h2, h3, h4, h5, h6⟩ := row_at h.row
  have hgl := h.lt g 0 rfl
  have hcap : n * S.s + S.s ≤ cur.size := by
    have := Nat.mul_le_mul_right S.s (show n + 1 ≤ cap by omega)
    rw [Nat.add_mul, Nat.one_mul] at this
    omega
  have hsz := size_setCells g (cells S f) (n * S.s) w
  have kp : ∀ (e : El α) (l r : Nat), Ow 5 .u8 w l r e.A e.n e.c (S.B e.x) → Ow 5 .u8 (w.setCells g (n * S.s) (cells S f)) l r e.A e.n e.c (S.B e.x) := by
    intro e l r he
    obtain ⟨⟨q1, q2⟩, q3, q4, q5⟩ := he
    refine ⟨⟨q1, ?_⟩, q3, by omega, q5⟩
    rcases q2 with q2 | ⟨g', c', cur', e', r1, r2, r3⟩
    · exact Or.inl q2
    · refine Or.inr ⟨g', c', cur', e', r1, ?_, r3⟩
      rw [heap_setCells_ne (fun heq => by
        subst heq
        rw [h1] at r2
        simp only [Option.some.injEq, Obj.cells.injEq] at r2
        exact S.ne r2.2.1)]
      exact r2
  refine ⟨⟨by rw [flat_len, List.length_append, h.len]; rfl, .inr ⟨g, cap, _, rfl, h2, heap_setCells_same _ _ _ _ h1, by omega, h4, by rw [lay_size]; exact h5, ?_⟩⟩, fun e he => ?_, h.ds.push h.body hf hl, by omega, fun g' o e => by injection e with e; injection e with e _; subst e; have := h.hi_; omega⟩
  · rw [lay_list _ _ _ (by rw [cells_len]; exact hcap), cells_len, h6, Nat.add_mul, Nat.one_mul, flat_append]
    have e1 : flat S [f] = cells S f := by simp [flat]
    have hlen : (flat S es ++ cells S f).length = n * S.s + S.s := by rw [List.length_append, flat_len, cells_len, h.len]
    rw [e1, List.take_append_of_le_length (by omega), List.take_of_length_le (by omega)]
  · rw [← hsz]
    rcases List.mem_append.1 he with he | he
    · exact (kp e lo hi (h.body e he)).up
    · obtain rfl : e = f := by simpa using he
      exact (kp e lo2 hi2 hf).up.down (by omega)
/-- Cells behind the elements changed. -/
theorem Oe.tail {g : Nat} (h : Oe S w lo hi (some ⟨g, 0, none⟩) n cap es) {o : Nat} (ho : n * S.s ≤ o) (vs : List Value) (hv : o + vs.length ≤ cap * S.s) : Oe S (w.setCells g o vs) lo hi (some ⟨g, 0, none⟩) n cap es := by
  obtain ⟨cur, h1, h2, h3, h4, h5, h6⟩ := row_at h.row
  have hsz := size_setCells g vs o w
  refine ⟨⟨h.row.1, .inr ⟨g, cap, _, rfl, h2, heap_setCells_same _ _ _ _ h1, h3, h4, by rw [lay_size]; exact h5, ?_⟩⟩, fun e he => ?_, h.ds, by have := h.hi_; omega, h.lt⟩
  · rw [lay_list _ _ _ (by omega), ← h6, List.append_assoc, List.take_append_of_le_length (by rw [List.length_take]; simp; omega), List.take_take, Nat.min_eq_left ho]
  · obtain ⟨⟨q1, q2⟩, q3, q4, q5⟩ := h.body e he
    refine ⟨⟨q1, ?_⟩, q3, by omega, q5⟩
    rcases q2 with q2 | ⟨g', c', cur', e', r1, r2, r3⟩
    · exact Or.inl q2
    · refine Or.inr ⟨g', c', cur', e', r1, ?_, r3⟩
      rw [heap_setCells_ne (fun heq => by
        subst heq
        rw [h1] at r2
        simp only [Option.some.injEq, Obj.cells.injEq] at r2
        exact S.ne r2.2.1)]
      exact r2
theorem set_pairwise {es : List (El α)} (h : Ds es) {i : Nat} {e f : El α} (he : es[i]? = some e) (hA : f.A = e.A) : Ds (es.set i f) := by
  have hi : i < es.length := (List.getElem?_eq_some_iff.1 he).1
  have hv : es[i] = e := (List.getElem?_eq_some_iff.1 he).2
  unfold Ds at h ⊢
  rw [List.pairwise_iff_getElem] at h ⊢
  intro a b ha hb hab
  have ha' : a < es.length := by simpa using ha
  have hb' : b < es.length := by simpa using hb
  have h0 := h a b ha' hb' hab
  have hAa : (es.set i f)[a].A = es[a].A := by
    rw [List.getElem_set]
    split
    · rename_i heq; subst heq; rw [hA, ← hv]
    · rfl
  have hAb : (es.set i f)[b].A = es[b].A := by
    rw [List.getElem_set]
    split
    · rename_i heq; subst heq; rw [hA, ← hv]
    · rfl
  rw [hAa, hAb]
  exact h0
theorem flat_set {es : List (El α)} {i : Nat} {e f : El α} (he : es[i]? = some e) {j : Nat} {v : Value} (hj : j < S.s) (hC : cells S f = (cells S e).set j v) : flat S (es.set i f) = (flat S es).set (i * S.s + j) v := by
  have hi : i < es.length := (List.getElem?_eq_some_iff.1 he).1
  have hv : es[i] = e := (List.getElem?_eq_some_iff.1 he).2
  have e0 : es = es.take i ++ e :: es.drop (i + 1) := by rw [← hv, ← List.drop_eq_getElem_cons hi, List.take_append_drop]
  have hlt : (es.take i).length = i := by rw [List.length_take]; omega
  have e1 : es.set i f = es.take i ++ f :: es.drop (i + 1) := by
    conv => lhs; rw [e0]
    rw [List.set_append_right _ _ (by omega), hlt, Nat.sub_self]
    rfl
  have c1 : ∀ (x : El α) (r : List (El α)), flat S (x :: r) = cells S x ++ flat S r := fun _ _ => rfl
  rw [e1, flat_append, c1, hC]
  conv => rhs; rw [e0, flat_append, c1]
  rw [List.set_append_right _ _ (by rw [flat_len, hlt]; omega), flat_len, hlt, Nat.add_sub_cancel_left, List.set_append_left _ _ (by rw [cells_len]; exact hj)]
/-- One cell of an element changed. -/
theorem Oe.cell {g : Nat} (h : Oe S w lo hi (some ⟨g, 0, none⟩) n cap es) {i : Nat} {e : El α} (he : es[i]? = some e) (x' : α) {j : Nat} (v : Value) (hj : j < S.s) (hC : S.C x' e.A e.n e.c = (S.C e.x e.A e.n e.c).set j v) (hB : S.B x' = S.B e.x) :
    Oe S (w.setCell ⟨g, i * S.s + j, none⟩ v) lo hi (some ⟨g, 0, none⟩) n cap (es.set i ⟨x', e.A, e.n, e.c⟩) := by
  have hs := (h.row.stored (i * S.s + j) v).1
  rw [← flat_set (S := S) (f := ⟨x', e.A, e.n, e.c⟩) he hj hC] at hs
  obtain ⟨cur, h1, h2, h3, h4, h5, h6⟩ := row_at h.row
  refine ⟨hs, fun f hf => ?_, set_pairwise h.ds he rfl, by have := h.hi_; simpa [World.setCell] using this, h.lt⟩
  have hfo : Ow 5 .u8 w lo hi f.A f.n f.c (S.B f.x) := by
    rcases List.mem_or_eq_of_mem_set hf with hf | hf
    · exact h.body f hf
    · subst hf
      show Ow 5 .u8 w lo hi e.A e.n e.c (S.B x')
      rw [hB]; exact h.body e (List.mem_of_getElem? he)
  obtain ⟨⟨q1, q2⟩, q3, q4, q5⟩ := hfo
  refine ⟨⟨q1, ?_⟩, q3, by simpa [World.setCell] using q4, q5⟩
  rcases q2 with q2 | ⟨g', c', cur', e', r1, r2, r3⟩
  · exact Or.inl q2
  · refine Or.inr ⟨g', c', cur', e', r1, ?_, r3⟩
    rw [Below.heap_setCell _ _ _ _ (show g' ≠ g from fun heq => by
      subst heq
      rw [h1] at r2
      simp only [Option.some.injEq, Obj.cells.injEq] at r2
      exact S.ne r2.2.1)]
    exact r2
/-- The slice of an element, narrowed to its own block; changed there. -/
theorem Oe.part (h : Oe S w lo hi A n cap es) {i : Nat} {e : El α} (he : es[i]? = some e) : ∃ l r, lo ≤ l ∧ r ≤ hi ∧ Ow 5 .u8 w l r e.A e.n e.c (S.B e.x) ∧
    ∀ (w' : World) (zs : List Int) (x' : α), Tch l r w w' → Ow 5 .u8 w' l r e.A e.n e.c zs → S.B x' = zs → S.C x' e.A e.n e.c = S.C e.x e.A e.n e.c → Oe S w' lo hi A n cap (es.set i ⟨x', e.A, e.n, e.c⟩) ∧ Tch lo hi w w' := by
  have hin : i < es.length := (List.getElem?_eq_some_iff.1 he).1
  obtain ⟨g, rfl, hg1, hg2, _⟩ := h.at_ he
  obtain ⟨cur, h1, h2, h3, h4, h5, h6⟩ := row_at h.row
  have hmem := List.mem_of_getElem? he
  have ho := h.body e hmem
  have fin : ∀ l r, lo ≤ l → r ≤ hi → (∀ q, l ≤ q → q < r → ∃ a, e.A = some a ∧ a.block = q) → Ow 5 .u8 w l r e.A e.n e.c (S.B e.x) →
      ∀ (w' : World) (zs : List Int) (x' : α), Tch l r w w' → Ow 5 .u8 w' l r e.A e.n e.c zs → S.B x' = zs → S.C x' e.A e.n e.c = S.C e.x e.A e.n e.c → Oe S w' lo hi (some ⟨g, 0, none⟩) n cap (es.set i ⟨x', e.A, e.n, e.c⟩) ∧ Tch lo hi w w' := by
    intro l r hl hr hq hnar w' zs x' ht hw hB hC
    have hgq : g < l ∨ r ≤ g := by
      rcases Nat.lt_or_ge g l with hlt | hge
      · exact Or.inl hlt
      · rcases Nat.lt_or_ge g r with hlt2 | hge2
        · exfalso
          obtain ⟨a, ha, hb⟩ := hq g hge hlt2
          rcases hnar.form with ⟨k0, _⟩ | ⟨g', cur', k0, _, _, k3, _⟩
          · rw [k0] at ha; cases ha
          · rw [k0] at ha
            obtain rfl := Option.some.inj ha
            have hb' : g' = g := hb
            subst hb'
            rw [h1] at k3
            simp only [Option.some.injEq, Obj.cells.injEq] at k3
            exact S.ne k3.2.1
        · exact Or.inr hge2
    have hfl : flat S (es.set i ⟨x', e.A, e.n, e.c⟩) = flat S es := by
      have e1 : cells S ⟨x', e.A, e.n, e.c⟩ = (cells S e).set 0 ((cells S e)[0]'(by rw [cells_len]; exact S.pos)) := by
        rw [List.set_getElem_self]; exact hC
      rw [flat_set (S := S) he S.pos e1]
      have := flat_cell S he (List.getElem?_eq_getElem (show 0 < (cells S e).length by rw [cells_len]; exact S.pos))
      apply List.ext_getElem?
      intro q
      rw [List.getElem?_set]
      split
      · rename_i heq
        subst heq
        split
        · exact this.symm
        · rename_i hge; rw [List.getElem?_eq_none (by omega)]
      · rfl
    have hrow : w'.ownsRow lo S.T S.s (.slice (some ⟨g, 0, none⟩) n cap) n (flat S (es.set i ⟨x', e.A, e.n, e.c⟩)) := by
      rw [hfl]
      refine ⟨h.row.1, .inr ⟨g, cap, cur, rfl, h2, ?_, h3, h4, h5, h6⟩⟩
      rw [ht.block g (by have := h.hi_; omega) (by omega)]; exact h1
    refine ⟨⟨hrow, fun f hf => ?_, set_pairwise h.ds he rfl, by have := h.hi_; have := ht.size; omega, h.lt⟩, ⟨ht.os, ht.tape, ht.output, ht.size, fun q hq1 hq2 => ht.block q hq1 (by omega)⟩⟩
    obtain ⟨a, ha, hfa⟩ := List.getElem_of_mem hf
    have ha' : a < es.length := by simpa using ha
    rw [List.getElem_set] at hfa
    split at hfa
    · subst hfa
      show Ow 5 .u8 w' lo hi e.A e.n e.c (S.B x')
      rw [hB]
      obtain ⟨q1, q2, q3, q4⟩ := hw
      refine ⟨row_down q1 hl, q2, by have := h.hi_; have := ht.size; omega, fun g' o e' => by have := q4 g' o e'; omega⟩
    · rename_i hne
      subst hfa
      have hfo := h.body es[a] (List.getElem_mem ha')
      obtain ⟨⟨q1, q2⟩, q3, q4, q5⟩ := hfo
      refine ⟨⟨q1, ?_⟩, q3, by have := ht.size; omega, q5⟩
      rcases q2 with q2 | ⟨g', c', cur', e', r1, r2, r3⟩
      · exact Or.inl q2
      · refine Or.inr ⟨g', c', cur', e', r1, ?_, r3⟩
        injection e' with e1' e2' e3'
        rw [ht.block g' (lt_of_block r2) ?_]
        · exact r2
        · rcases Nat.lt_or_ge g' l with hlt | hge
          · exact Or.inl hlt
          · rcases Nat.lt_or_ge g' r with hlt2 | hge2
            · exfalso
              obtain ⟨a0, ha0, hb0⟩ := hq g' hge hlt2
              have hd := h.ds
              unfold Ds at hd
              rw [List.pairwise_iff_getElem] at hd
              have hie : es[i] = e := (List.getElem?_eq_some_iff.1 he).2
              rcases Nat.lt_or_gt_of_ne hne with hlt3 | hgt3
              · have := hd i a hin ha' hlt3
                rw [hie] at this
                exact this a0 ⟨g', 0, none⟩ ha0 e1' hb0
              · have := hd a i ha' hin hgt3
                rw [hie] at this
                exact this ⟨g', 0, none⟩ a0 e1' ha0 hb0.symm
            · exact Or.inr hge2
  rcases ho.form with ⟨k0, k1, k2⟩ | ⟨q, cq, k0, k1, k2, k3, _⟩
  · have hz : S.B e.x = [] := List.eq_nil_of_length_eq_zero (by rw [ho.len, k1])
    have hnar : Ow 5 .u8 w hi hi e.A e.n e.c (S.B e.x) := by rw [k0, k1, k2, hz]; exact Ow.nil_ _ _ _ _ _ h.hi_
    exact ⟨hi, hi, by omega, Nat.le_refl _, hnar, fin hi hi (by omega) (Nat.le_refl _) (fun q h1 h2 => by omega) hnar⟩
  · have hnar : Ow 5 .u8 w q (q + 1) e.A e.n e.c (S.B e.x) := by
      obtain ⟨⟨p1, p2⟩, p3, p4, p5⟩ := ho
      refine ⟨⟨p1, ?_⟩, p3, by have := h.hi_; omega, fun g' o e' => by rw [k0] at e'; injection e' with e'; injection e' with e' _; omega⟩
      rcases p2 with p2 | ⟨g', c', cur', e', r1, r2, r3⟩
      · exact Or.inl p2
      · injection e' with e1' e2' e3'
        rw [k0] at e1'; injection e1' with e1'; injection e1' with e1' _
        subst e1'
        exact Or.inr ⟨q, c', cur', by rw [k0, e3'], Nat.le_refl _, r2, r3⟩
    exact ⟨q, q + 1, k1, by omega, hnar, fin q (q + 1) k1 (by omega) (fun q' h1 h2 => ⟨_, k0, by show q = q'; omega⟩) hnar⟩
end
/-- Cells stored at a place, as the walk meets it. -/
theorem list_storeAt {P : Program} {ops : Array Oper} {rest : List Oper} {dst : Option Tmp} {tp : TypeId} {ps : String} {af : Array Edge} {a : Act} {w : World} {Q : Exit → Act → World → Prop} {ty : TypeId} {x y : Operand}
    (b o : Nat) (cs : Array Value) (ht : w.there b o cs.size) (hi : (P.info? ty).map (·.size) = some cs.size) (h1 : cs.all (·.oneCell') = true) (hx : a.eval x = .pointer (some ⟨b, o, none⟩)) (hy : a.eval y = .agg cs)
    (h : wpList P ops Q rest (a.put dst undef) (w.setCells b o cs.toList)) : wpList P ops Q ({ dst := dst, op := .store ty x y, type := tp, pos := ps, after := af, guard := none } :: rest) a w :=
  wpList_store_mid rfl ty x y rfl b o cs hx hy ht hi h1 h
end Go.Proofs.Ytjmenbpalihnnaa.mrw
end

section
namespace Go.Proofs.Ytjmenbpalihnnaa.mrw
open Go.RowKit sl harn bx
set_option linter.unusedVariables false

theorem grown_bx {T : TypeId} {w w' : World} {b : Nat} {cs : Array Value} {r : Option Nat} (h : Bx T w b cs) (hg : w.grownBy w' r) (hne : some b ≠ r) : Bx T w' b cs := h.same (hg.block b h.lt hne)
theorem grown_below {w w' : World} (h : Below w.heap.size w w') (r : Option Nat) : w.grownBy w' r := ⟨h.os, h.tape, h.output, h.size, fun k hk _ => h.block k hk⟩
theorem grown_trans {a b c : World} {r : Option Nat} (h : a.grownBy b r) (g : b.grownBy c r) : a.grownBy c r :=
  ⟨g.os.trans h.os, g.tape.trans h.tape, g.output.trans h.output, Nat.le_trans h.size g.size, fun k hk hd => (g.block k (Nat.lt_of_lt_of_le hk h.size) hd).trans (h.block k hk hd)⟩
theorem below_grown {lo : Nat} {w0 w w' : World} {r : Option Nat} (h : Below lo w0 w) (hg : w.grownBy w' r) (hr : ∀ q, r = some q → lo ≤ q) (hl : lo ≤ w.heap.size) : Below lo w0 w' :=
  h.grown hg hl hr
abbrev blkOf (A : Option Addr) : Option Nat := A.map (·.block)
section
variable {α : Type} {S : Sh α} {w w' : World} {lo hi n cap : Nat} {A : Option Addr} {xs : List α} {es : List (El α)}
theorem Oe.lo_ (h : Oe S w lo hi A n cap es) {q : Nat} (hq : blkOf A = some q) : lo ≤ q ∧ q < hi := by
  rcases h.form with ⟨e0, _⟩ | ⟨g, cur, e0, h1, h2, _⟩
  · rw [e0] at hq; cases hq
  · rw [e0] at hq
    obtain rfl : g = q := by simpa using hq
    exact ⟨h1, h2⟩
/-- A slice of bytes of the call's own beside a row that changes. -/
theorem ow_grown (h : Oe S w lo hi A n cap es) (hg : w.grownBy w' (blkOf A)) {lo2 hi2 m c : Nat} {B : Option Addr} {zs : List Int} (ho : Ow 5 .u8 w lo2 hi2 B m c zs) : Ow 5 .u8 w' lo2 hi2 B m c zs := by
  obtain ⟨⟨q1, q2⟩, q3, q4, q5⟩ := ho
  refine ⟨⟨q1, ?_⟩, q3, by have := hg.size; omega, q5⟩
  rcases q2 with q2 | ⟨g', c', cur', e, r1, r2, r3⟩
  · exact Or.inl q2
  · refine Or.inr ⟨g', c', cur', e, r1, ?_, r3⟩
    rw [hg.block g' (lt_of_block r2) ?_]
    · exact r2
    · intro heq
      rcases h.form with ⟨e0, _⟩ | ⟨gr, curr, e0, _, _, s3, _⟩
      · rw [e0] at heq; cases heq
      · rw [e0] at heq
        obtain rfl : g' = gr := by simpa using heq
        rw [r2] at s3
        simp only [Option.some.injEq, Obj.cells.injEq] at s3
        exact S.ne s3.2.1.symm
/-- Elements appended: the new slice; the old one stays; only its block may change. -/
theorem Oe.more {P : Program} (t ty : TypeId) (i : TypeInfo) (z : Value) (h1 : P.underlying t = some (.slice S.T)) (h2 : P.info? S.T = some i) (h3 : i.zero = some z) (h4 : i.size = S.s) (h5 : i.bytes ≤ 128) (h6 : z.cells.size = S.s)
    (h : Oe S w lo hi A n cap es) (ad : Addr) (m c : Nat) (fs : List (El α)) (hm : fs.length = m) (hsrc : ∀ j u, (flat S fs)[j]? = some u → w.cell? (ad.add j) = some u)
    (hb : ∀ f ∈ fs, ∃ lo2 hi2, lo ≤ lo2 ∧ Ow 5 .u8 w lo2 hi2 f.A f.n f.c (S.B f.x)) (hd : Ds (es ++ fs)) (hn : n + m ≤ 1073741824) (hlo : lo ≤ w.heap.size) :
    ∃ A' cap' w', (Builtin.append_ #[t, t] ty #[.slice A n cap, .slice (some ad) m c]).run P w = .ok (.slice A' (n + m) cap') w' ∧ Oe S w' lo w'.heap.size A' (n + m) cap' (es ++ fs) ∧ w.grownBy w' (blkOf A) ∧ Oe S w' lo hi A n cap es ∧ (blkOf A' = blkOf A ∨ ∀ q, blkOf A' = some q → w.heap.size ≤ q) := by
  have hb8 : (n + m) * i.bytes ≤ 140737488355328 := by
    have := Nat.mul_le_mul hn h5
    omega
  have fin : ∀ (A' : Option Addr) (cap' : Nat) (w' : World), w'.ownsRow lo S.T S.s (.slice A' (n + m) cap') (n + m) (flat S (es ++ fs)) → w.grownBy w' (blkOf A) → Oe S w' lo w'.heap.size A' (n + m) cap' (es ++ fs) := by
    intro A' cap' w' hrow hg
    refine ⟨hrow, fun e he => ?_, hd, Nat.le_refl _, fun g o e => ?_⟩
    · rcases List.mem_append.1 he with he | he
      · exact (ow_grown h hg (h.body e he)).up
      · obtain ⟨lo2, hi2, hl, ho⟩ := hb e he
        exact ((ow_grown h hg ho).up).down hl
    · rcases hrow.2 with ⟨e0, _⟩ | ⟨g', c', cur', e0, _, k2, _⟩
      · injection e0 with e0; rw [e0] at e; cases e
      · injection e0 with e0
        rw [e0] at e; injection e with e; injection e with e _; subst e
        exact lt_of_block k2
  have hlen : (flat S es ++ flat S fs).length = (n + m) * S.s := by rw [List.length_append, h.row.1, flat_len, hm, Nat.add_mul]
  have grown : ∀ (old : Nat), old < n + m →
      (w.drew.alloc (.cells ((flat S es).toArray ++ (flat S fs).toArray ++ Builtin.zeroCells z.cells (grownCap w (n + m) old S.T - (n + m))) S.T)).ownsRow lo S.T S.s
        (.slice (some ⟨w.heap.size, 0, none⟩) (n + m) (grownCap w (n + m) old S.T)) (n + m) (flat S (es ++ fs)) ∧
      Below w.heap.size w (w.drew.alloc (.cells ((flat S es).toArray ++ (flat S fs).toArray ++ Builtin.zeroCells z.cells (grownCap w (n + m) old S.T - (n + m))) S.T)) := by
    intro old ho
    have hge := grownCap_ge w (n + m) old S.T
    have hcm : grownCap w (n + m) old S.T ≤ maxLen := grownCap_le_maxLen w (n + m) old S.T (by unfold maxLen; omega)
    refine ⟨⟨by rw [flat_append]; exact hlen, .inr ⟨w.heap.size, _, _, rfl, hlo, heap_alloc_new w.drew _, hge, hcm, ?_, ?_⟩⟩, ⟨rfl, rfl, rfl, by simp, fun k hk => heap_alloc_old w.drew _ hk⟩⟩
    · simp only [Array.size_append, List.size_toArray, size_zeroCells, h6, h.row.1, flat_len, hm, ← Nat.add_mul]
      congr 1
      omega
    · simp only [Array.toList_append, List.append_assoc]
      rw [← List.append_assoc, ← hlen, flat_append]
      exact List.take_left
  rcases h.form with ⟨rfl, rfl, rfl⟩ | ⟨g, cur, rfl, hg1, hg2, hcur, hnc, hcm, hcs, htake⟩
  · have he : es = [] := List.eq_nil_of_length_eq_zero h.len
    subst he
    by_cases hm0 : m = 0
    · subst hm0
      have hf : fs = [] := List.eq_nil_of_length_eq_zero hm
      subst hf
      refine ⟨none, 0, w, ?_, (Oe.nil_ S w lo _ (Nat.le_refl _)), ⟨rfl, rfl, rfl, Nat.le_refl _, fun _ _ _ => rfl⟩, h, Or.inl rfl⟩
      simp [Builtin.append_, run_underlying h1, sizeOf, typeInfo, h2, Builtin.lenOf, Builtin.firstCells, loadCells, loadCellsFrom]
    · have hr := run_append_nil (P := P) w t ty S.T i z h1 h2 h3 ad m c (flat S fs) (by rw [flat_len, hm, h4]) hsrc (by omega) (by omega) (by have hb := hb8; simp only [Nat.zero_add] at hb; omega)
      have hgr := grown 0 (by omega)
      have hf : flat S ([] : List (El α)) = [] := rfl
      simp only [Nat.zero_add, List.nil_append, hf, Array.empty_append] at hgr ⊢
      refine ⟨_, _, _, hr, ?_, grown_below hgr.2 _, h.below hgr.2, Or.inr fun q hq => ?_⟩
      · have := fin (some ⟨w.heap.size, 0, none⟩) _ _ (by simpa using hgr.1) (grown_below hgr.2 _)
        simpa using this
      · have : w.heap.size = q := by simpa using hq
        omega
  · by_cases hroom : n + m ≤ cap
    · obtain ⟨w', hr, g1, g2⟩ := run_append_fits (P := P) w lo t ty S.T i S.s h1 h2 h4 g n cap (flat S es) h.row ad m c (flat S fs) (by rw [flat_len, hm]) hsrc (flat_one S fs) hroom
      rw [← flat_append] at g1
      refine ⟨_, _, w', hr, fin _ _ _ g1 g2, g2, ⟨?_, fun e he => (ow_grown h g2 (h.body e he)), h.ds, by have := h.hi_; have := g2.size; omega, h.lt⟩, Or.inl rfl⟩
      obtain ⟨cur', k1, k2, k3, k4, k5, k6⟩ := row_at g1
      refine ⟨h.row.1, .inr ⟨g, cap, cur', rfl, k2, k1, hnc, hcm, k5, ?_⟩⟩
      have := congrArg (List.take (n * S.s)) k6
      rw [List.take_take, Nat.min_eq_left (Nat.mul_le_mul_right _ (by omega)), flat_append, List.take_append_of_le_length (by rw [h.row.1]; exact Nat.le_refl _)] at this
      exact this.trans (List.take_of_length_le (by rw [h.row.1]; exact Nat.le_refl _))
    · have holds : ∀ j u, (flat S es)[j]? = some u → w.cell? ((⟨g, 0, none⟩ : Addr).add j) = some u := h.row.cells (g := g) rfl
      have hr := run_append_grow (P := P) w t ty S.T i z h1 h2 h3 ⟨g, 0, none⟩ n cap (flat S es) (by rw [h4]; exact h.row.1) holds ad m c (flat S fs) (by rw [flat_len, hm, h4]) hsrc (by omega) (by omega) (growslice_fits (by omega) hb8)
      have hgr := grown cap (by omega)
      refine ⟨_, _, _, hr, fin _ _ _ hgr.1 (grown_below hgr.2 _), grown_below hgr.2 _, h.below hgr.2, Or.inr fun q hq => ?_⟩
      have : w.heap.size = q := by simpa using hq
      omega
/-- The walk's form. -/
theorem list_more {P : Program} (w : World) {ops : Array Oper} {rest : List Oper} {o : Oper} {a : Act} {Q : Exit → Act → World → Prop} (hgd : o.guard = none) (s x : Operand) (t : TypeId)
    (hop : o.op = .call { callee := .builtin .append, args := #[s, x], argTypes := #[t, t] })
    {i : TypeInfo} {z : Value} (h1 : P.underlying t = some (.slice S.T)) (h2 : P.info? S.T = some i) (h3 : i.zero = some z) (h4 : i.size = S.s) (h5 : i.bytes ≤ 128) (h6 : z.cells.size = S.s)
    {lo hi n cap m c : Nat} {A : Option Addr} {ad : Addr} {es fs : List (El α)} (hs : a.eval s = .slice A n cap) (hx : a.eval x = .slice (some ad) m c) (h : Oe S w lo hi A n cap es) (hm : fs.length = m)
    (hsrc : ∀ j u, (flat S fs)[j]? = some u → w.cell? (ad.add j) = some u) (hb : ∀ f ∈ fs, ∃ lo2 hi2, lo ≤ lo2 ∧ Ow 5 .u8 w lo2 hi2 f.A f.n f.c (S.B f.x)) (hd : Ds (es ++ fs)) (hn : n + m ≤ 1073741824) (hlo : lo ≤ w.heap.size)
    (hK : ∀ A' cap' w', Oe S w' lo w'.heap.size A' (n + m) cap' (es ++ fs) → w.grownBy w' (blkOf A) → wpList P ops Q rest (a.put o.dst (.slice A' (n + m) cap')) w') : wpList P ops Q (o :: rest) a w := by
  refine wpList_plain hgd fun K hK' => ?_
  obtain ⟨A', cap', w', hrun, g1, g2, _, _⟩ := h.more (P := P) t o.type i z h1 h2 h3 h4 h5 h6 ad m c fs hm hsrc hb hd hn hlo
  unfold Oper.wp execOp
  simp only [hop, resolve, invoke, builtin, Sem.run_bind, Sem.run_pure, Result.andThen_ok, List.map_toArray, List.map_cons, List.map_nil, hs, hx, hrun]
  exact hK' _ _ (hK A' cap' w' g1 g2)
theorem step_more {P : Program} {ops : Array Oper} {o : Oper} {a : Act} {w : World} {K : Act → World → Prop} {Q : Exit → Act → World → Prop} {X : Prop} (hgd : o.guard = none) (s x : Operand) (t : TypeId)
    (hop : o.op = .call { callee := .builtin .append, args := #[s, x], argTypes := #[t, t] })
    {i : TypeInfo} {z : Value} (h1 : P.underlying t = some (.slice S.T)) (h2 : P.info? S.T = some i) (h3 : i.zero = some z) (h4 : i.size = S.s) (h5 : i.bytes ≤ 128) (h6 : z.cells.size = S.s)
    {lo hi n cap m c : Nat} {A : Option Addr} {ad : Addr} {es fs : List (El α)} (hs : a.eval s = .slice A n cap) (hx : a.eval x = .slice (some ad) m c) (h : Oe S w lo hi A n cap es) (hm : fs.length = m)
    (hsrc : ∀ j u, (flat S fs)[j]? = some u → w.cell? (ad.add j) = some u) (hb : ∀ f ∈ fs, ∃ lo2 hi2, lo ≤ lo2 ∧ Ow 5 .u8 w lo2 hi2 f.A f.n f.c (S.B f.x)) (hd : Ds (es ++ fs)) (hn : n + m ≤ 1073741824) (hlo : lo ≤ w.heap.size)
    (hK : ∀ A' cap' w', Oe S w' lo w'.heap.size A' (n + m) cap' (es ++ fs) → w.grownBy w' (blkOf A) → K (a.put o.dst (.slice A' (n + m) cap')) w') :
    if Region.wanted o (yielded ops a.tmps) = true then Oper.wp P o a w K Q else X := by
  have hw : Region.wanted o (yielded ops a.tmps) = true := by simp [Region.wanted, hgd]
  rw [if_pos hw]
  obtain ⟨A', cap', w', hrun, g1, g2, _, _⟩ := h.more (P := P) t o.type i z h1 h2 h3 h4 h5 h6 ad m c fs hm hsrc hb hd hn hlo
  unfold Oper.wp execOp
  simp only [hop, resolve, invoke, builtin, Sem.run_bind, Sem.run_pure, Result.andThen_ok, List.map_toArray, List.map_cons, List.map_nil, hs, hx, hrun]
  exact hK A' cap' w' g1 g2
/-- A new block that holds one element. -/
theorem one_src (f : El α) (w : World) : ∀ j u, (flat S [f])[j]? = some u → (w.alloc (.cells (cells S f).toArray S.T)).cell? ((⟨w.heap.size, 0, none⟩ : Addr).add j) = some u := by
  intro j u hu
  have e : flat S [f] = cells S f := by simp [flat]
  rw [e] at hu
  have e2 : (⟨w.heap.size, 0, none⟩ : Addr).add j = ⟨w.heap.size, j, none⟩ := by unfold Addr.add; split <;> simp_all
  rw [e2, cell_of_row _ _ _ _ _ _ (heap_alloc_new w _)]
  simpa using hu
/-- One element appended out of a block made for it: what stands in whatever order. -/
theorem Oe.push {P : Program} (t ty : TypeId) (i : TypeInfo) (z : Value) (h1 : P.underlying t = some (.slice S.T)) (h2 : P.info? S.T = some i) (h3 : i.zero = some z) (h4 : i.size = S.s) (h5 : i.bytes ≤ 128) (h6 : z.cells.size = S.s)
    (h : Oe S w lo hi A n cap es) (f : El α) {lo2 hi2 : Nat} (hf : Ow 5 .u8 w lo2 hi2 f.A f.n f.c (S.B f.x)) (hl : hi ≤ lo2) (hll : lo ≤ lo2) (hn : n + 1 ≤ 1073741824) (hlo : lo ≤ w.heap.size) :
    ∃ A' cap' w', (Builtin.append_ #[t, t] ty #[.slice A n cap, .slice (some ⟨w.heap.size, 0, none⟩) 1 1]).run P (w.alloc (.cells (cells S f).toArray S.T)) = .ok (.slice A' (n + 1) cap') w' ∧ Oe S w' lo w'.heap.size A' (n + 1) cap' (es ++ [f]) ∧ w.grownBy w' (blkOf A) := by
  have hb := below_box w (.cells (cells S f).toArray S.T)
  obtain ⟨A', cap', w', hrun, g1, g2, _, _⟩ := (h.below hb).more (P := P) t ty i z h1 h2 h3 h4 h5 h6 ⟨w.heap.size, 0, none⟩ 1 1 [f] rfl (one_src f w) (fun f' hf' => by
    obtain rfl : f' = f := by simpa using hf'
    exact ⟨lo2, hi2, hll, hf.below hb⟩) (h.ds.push h.body hf hl) hn (by simp; omega)
  exact ⟨A', cap', w', hrun, g1, grown_trans (grown_below hb _) g2⟩
theorem list_push {P : Program} (w : World) {ops : Array Oper} {rest : List Oper} {o : Oper} {a : Act} {Q : Exit → Act → World → Prop} (hgd : o.guard = none) (s x : Operand) (t : TypeId)
    (hop : o.op = .call { callee := .builtin .append, args := #[s, x], argTypes := #[t, t] })
    {i : TypeInfo} {z : Value} (h1 : P.underlying t = some (.slice S.T)) (h2 : P.info? S.T = some i) (h3 : i.zero = some z) (h4 : i.size = S.s) (h5 : i.bytes ≤ 128) (h6 : z.cells.size = S.s)
    {lo hi n cap : Nat} {A : Option Addr} {es : List (El α)} (hs : a.eval s = .slice A n cap) (hx : a.eval x = .slice (some ⟨w.heap.size, 0, none⟩) 1 1) (h : Oe S w lo hi A n cap es) (f : El α)
    {lo2 hi2 : Nat} (hf : Ow 5 .u8 w lo2 hi2 f.A f.n f.c (S.B f.x)) (hl : hi ≤ lo2) (hll : lo ≤ lo2) (hn : n + 1 ≤ 1073741824) (hlo : lo ≤ w.heap.size)
    (hK : ∀ A' cap' w', Oe S w' lo w'.heap.size A' (n + 1) cap' (es ++ [f]) → w.grownBy w' (blkOf A) → wpList P ops Q rest (a.put o.dst (.slice A' (n + 1) cap')) w') : wpList P ops Q (o :: rest) a (w.alloc (.cells (cells S f).toArray S.T)) := by
  refine wpList_plain hgd fun K hK' => ?_
  obtain ⟨A', cap', w', hrun, g1, g2⟩ := h.push (P := P) t o.type i z h1 h2 h3 h4 h5 h6 f hf hl hll hn hlo
  unfold Oper.wp execOp
  simp only [hop, resolve, invoke, builtin, Sem.run_bind, Sem.run_pure, Result.andThen_ok, List.map_toArray, List.map_cons, List.map_nil, hs, hx, hrun]
  exact hK' _ _ (hK A' cap' w' g1 g2)
theorem rq_grown {β : Type} {S2 : Sh β} {ys : List β} {lo2 hi2 m c : Nat} {B : Option Addr} (h : Rq S2 w lo2 hi2 B m c ys) (o : Oe S w lo hi A n cap es) (hg : w.grownBy w' (blkOf A)) (hd : hi2 ≤ lo) : Rq S2 w' lo2 hi2 B m c ys :=
  h.same hg.size fun b _ hlt => hg.block b (by have := h.hi_; omega) (fun e => by have := (o.lo_ e.symm).1; omega)
theorem rd_grown {k : IntKind} {zs : List Int} {lo2 hi2 m c : Nat} {B : Option Addr} (o : Oe S w lo hi A n cap es) (hg : w.grownBy w' (blkOf A)) (h : Rd k w lo2 hi2 B m c zs) (hd : hi2 ≤ lo) : Rd k w' lo2 hi2 B m c zs :=
  h.same hg.size fun b _ hlt => hg.block b (by have := h.hi_; omega) (fun e => by have := (o.lo_ e.symm).1; omega)
theorem oe_grown {β : Type} {S2 : Sh β} {fs : List (El β)} {lo2 hi2 m c : Nat} {B : Option Addr} (h : Oe S2 w lo2 hi2 B m c fs) (o : Oe S w lo hi A n cap es) (hg : w.grownBy w' (blkOf A)) (hd : hi2 ≤ lo ∨ hi ≤ lo2) : Oe S2 w' lo2 hi2 B m c fs :=
  h.same hg.size fun b h1 hlt => hg.block b (by have := h.hi_; omega) (fun e => by have := o.lo_ e.symm; omega)
end
end Go.Proofs.Ytjmenbpalihnnaa.mrw
end

section
namespace Go.Proofs.Ytjmenbpalihnnaa.mrw
open Go.RowKit sl harn bx
set_option linter.unusedVariables false
section
variable {α : Type} {S : Sh α} {w w' : World} {lo hi n cap : Nat} {A : Option Addr} {xs : List α} {es : List (El α)}
/-- The slice of an element, narrowed to its own block; changed there. -/
theorem Oe.part2 (h : Oe S w lo hi A n cap es) {i : Nat} {e : El α} (he : es[i]? = some e) : ∃ l r, lo ≤ l ∧ r ≤ hi ∧ (∀ q, l ≤ q → q < r → ∃ a, e.A = some a ∧ a.block = q) ∧ Ow 5 .u8 w l r e.A e.n e.c (S.B e.x) ∧
    ∀ (w' : World) (zs : List Int) (x' : α), Tch l r w w' → Ow 5 .u8 w' l r e.A e.n e.c zs → S.B x' = zs → S.C x' e.A e.n e.c = S.C e.x e.A e.n e.c → Oe S w' lo hi A n cap (es.set i ⟨x', e.A, e.n, e.c⟩) ∧ Tch lo hi w w' := by
  have hin : i < es.length := (List.getElem?_eq_some_iff.1 he).1
  obtain ⟨g, rfl, hg1, hg2, _⟩ := h.at_ he
  obtain ⟨cur, h1, h2, h3, h4, h5, h6⟩ := row_at h.row
  have hmem := List.mem_of_getElem? he
  have ho := h.body e hmem
  have fin : ∀ l r, lo ≤ l → r ≤ hi → (∀ q, l ≤ q → q < r → ∃ a, e.A = some a ∧ a.block = q) → Ow 5 .u8 w l r e.A e.n e.c (S.B e.x) →
      ∀ (w' : World) (zs : List Int) (x' : α), Tch l r w w' → Ow 5 .u8 w' l r e.A e.n e.c zs → S.B x' = zs → S.C x' e.A e.n e.c = S.C e.x e.A e.n e.c → Oe S w' lo hi (some ⟨g, 0, none⟩) n cap (es.set i ⟨x', e.A, e.n, e.c⟩) ∧ Tch lo hi w w' := by
    intro l r hl hr hq hnar w' zs x' ht hw hB hC
    have hgq : g < l ∨ r ≤ g := by
      rcases Nat.lt_or_ge g l with hlt | hge
      · exact Or.inl hlt
      · rcases Nat.lt_or_ge g r with hlt2 | hge2
        · exfalso
          obtain ⟨a, ha, hb⟩ := hq g hge hlt2
          rcases hnar.form with ⟨k0, _⟩ | ⟨g', cur', k0, _, _, k3, _⟩
          · rw [k0] at ha; cases ha
          · rw [k0] at ha
            obtain rfl := Option.some.inj ha
            have hb' : g' = g := hb
            subst hb'
            rw [h1] at k3
            simp only [Option.some.injEq, Obj.cells.injEq] at k3
            exact S.ne k3.2.1
        · exact Or.inr hge2
    have hfl : flat S (es.set i ⟨x', e.A, e.n, e.c⟩) = flat S es := by
      have e1 : cells S ⟨x', e.A, e.n, e.c⟩ = (cells S e).set 0 ((cells S e)[0]'(by rw [cells_len]; exact S.pos)) := by
        rw [List.set_getElem_self]; exact hC
      rw [flat_set (S := S) he S.pos e1]
      have := flat_cell S he (List.getElem?_eq_getElem (show 0 < (cells S e).length by rw [cells_len]; exact S.pos))
      apply List.ext_getElem?
      intro q
      rw [List.getElem?_set]
      split
      · rename_i heq
        subst heq
        split
        · exact this.symm
        · rename_i hge; rw [List.getElem?_eq_none (by omega)]
      · rfl
    have hrow : w'.ownsRow lo S.T S.s (.slice (some ⟨g, 0, none⟩) n cap) n (flat S (es.set i ⟨x', e.A, e.n, e.c⟩)) := by
      rw [hfl]
      refine ⟨h.row.1, .inr ⟨g, cap, cur, rfl, h2, ?_, h3, h4, h5, h6⟩⟩
      rw [ht.block g (by have := h.hi_; omega) (by omega)]; exact h1
    refine ⟨⟨hrow, fun f hf => ?_, set_pairwise h.ds he rfl, by have := h.hi_; have := ht.size; omega, h.lt⟩, ⟨ht.os, ht.tape, ht.output, ht.size, fun q hq1 hq2 => ht.block q hq1 (by omega)⟩⟩
    obtain ⟨a, ha, hfa⟩ := List.getElem_of_mem hf
    have ha' : a < es.length := by simpa using ha
    rw [List.getElem_set] at hfa
    split at hfa
    · subst hfa
      show Ow 5 .u8 w' lo hi e.A e.n e.c (S.B x')
      rw [hB]
      obtain ⟨q1, q2, q3, q4⟩ := hw
      refine ⟨row_down q1 hl, q2, by have := h.hi_; have := ht.size; omega, fun g' o e' => by have := q4 g' o e'; omega⟩
    · rename_i hne
      subst hfa
      have hfo := h.body es[a] (List.getElem_mem ha')
      obtain ⟨⟨q1, q2⟩, q3, q4, q5⟩ := hfo
      refine ⟨⟨q1, ?_⟩, q3, by have := ht.size; omega, q5⟩
      rcases q2 with q2 | ⟨g', c', cur', e', r1, r2, r3⟩
      · exact Or.inl q2
      · refine Or.inr ⟨g', c', cur', e', r1, ?_, r3⟩
        injection e' with e1' e2' e3'
        rw [ht.block g' (lt_of_block r2) ?_]
        · exact r2
        · rcases Nat.lt_or_ge g' l with hlt | hge
          · exact Or.inl hlt
          · rcases Nat.lt_or_ge g' r with hlt2 | hge2
            · exfalso
              obtain ⟨a0, ha0, hb0⟩ := hq g' hge hlt2
              have hd := h.ds
              unfold Ds at hd
              rw [List.pairwise_iff_getElem] at hd
              have hie : es[i] = e := (List.getElem?_eq_some_iff.1 he).2
              rcases Nat.lt_or_gt_of_ne hne with hlt3 | hgt3
              · have := hd i a hin ha' hlt3
                rw [hie] at this
                exact this a0 ⟨g', 0, none⟩ ha0 e1' hb0
              · have := hd a i ha' hin hgt3
                rw [hie] at this
                exact this ⟨g', 0, none⟩ a0 e1' ha0 hb0.symm
            · exact Or.inr hge2
  rcases ho.form with ⟨k0, k1, k2⟩ | ⟨q, cq, k0, k1, k2, k3, _⟩
  · have hz : S.B e.x = [] := List.eq_nil_of_length_eq_zero (by rw [ho.len, k1])
    have hnar : Ow 5 .u8 w hi hi e.A e.n e.c (S.B e.x) := by rw [k0, k1, k2, hz]; exact Ow.nil_ _ _ _ _ _ h.hi_
    exact ⟨hi, hi, by omega, Nat.le_refl _, fun q h1 h2 => by omega, hnar, fin hi hi (by omega) (Nat.le_refl _) (fun q h1 h2 => by omega) hnar⟩
  · have hnar : Ow 5 .u8 w q (q + 1) e.A e.n e.c (S.B e.x) := by
      obtain ⟨⟨p1, p2⟩, p3, p4, p5⟩ := ho
      refine ⟨⟨p1, ?_⟩, p3, by have := h.hi_; omega, fun g' o e' => by rw [k0] at e'; injection e' with e'; injection e' with e' _; omega⟩
      rcases p2 with p2 | ⟨g', c', cur', e', r1, r2, r3⟩
      · exact Or.inl p2
      · injection e' with e1' e2' e3'
        rw [k0] at e1'; injection e1' with e1'; injection e1' with e1' _
        subst e1'
        exact Or.inr ⟨q, c', cur', by rw [k0, e3'], Nat.le_refl _, r2, r3⟩
    exact ⟨q, q + 1, k1, by omega, fun q' h1 h2 => ⟨_, k0, by show q = q'; omega⟩, hnar, fin q (q + 1) k1 (by omega) (fun q' h1 h2 => ⟨_, k0, by show q = q'; omega⟩) hnar⟩
end

section
variable {α : Type} {S : Sh α} {w w' : World} {lo hi n cap : Nat} {A : Option Addr} {es : List (El α)}
/-- Bytes of the call's own stay when a cell of a row changes. -/
theorem ow_row_set {g l r m c : Nat} {B : Option Addr} {zs : List Int} (h : Oe S w lo hi (some ⟨g, 0, none⟩) n cap es) (hf : Ow 5 .u8 w l r B m c zs) (j : Nat) (v : Value) : Ow 5 .u8 (w.setCell ⟨g, j, none⟩ v) l r B m c zs := by
  obtain ⟨cur, h1, _⟩ := row_at h.row
  obtain ⟨⟨q1, q2⟩, q3, q4, q5⟩ := hf
  refine ⟨⟨q1, ?_⟩, q3, by simpa [World.setCell] using q4, q5⟩
  rcases q2 with q2 | ⟨g', c', cur', e', r1, r2, r3⟩
  · exact Or.inl q2
  · refine Or.inr ⟨g', c', cur', e', r1, ?_, r3⟩
    rw [Below.heap_setCell _ _ _ _ (show g' ≠ g from fun heq => by
      subst heq
      rw [h1] at r2
      simp only [Option.some.injEq, Obj.cells.injEq] at r2
      exact S.ne r2.2.1)]
    exact r2
/-- Bytes of the call's own stay when other bytes change. -/
theorem ow_apart {a b l r m c : Nat} {B E : Option Addr} {zs : List Int} (hf : Ow 5 .u8 w l r B m c zs) (ht : Tch a b w w') (hq : ∀ q, a ≤ q → q < b → ∃ ad, E = some ad ∧ ad.block = q) (hd : ∀ x y, E = some x → B = some y → x.block ≠ y.block) : Ow 5 .u8 w' l r B m c zs := by
  obtain ⟨⟨q1, q2⟩, q3, q4, q5⟩ := hf
  refine ⟨⟨q1, ?_⟩, q3, by have := ht.size; omega, q5⟩
  rcases q2 with q2 | ⟨g', c', cur', e', r1, r2, r3⟩
  · exact Or.inl q2
  · refine Or.inr ⟨g', c', cur', e', r1, ?_, r3⟩
    injection e' with e1' e2' e3'
    rw [ht.block g' (lt_of_block r2) ?_]
    · exact r2
    · rcases Nat.lt_or_ge g' a with h1 | h1
      · exact Or.inl h1
      · rcases Nat.lt_or_ge g' b with h2 | h2
        · exfalso
          obtain ⟨ad, h3, h4⟩ := hq g' h1 h2
          exact hd ad ⟨g', 0, none⟩ h3 e1' h4
        · exact Or.inr h2
theorem ds_apart {f e : El α} {i : Nat} (h : Ds (es ++ [f])) (he : es[i]? = some e) : ∀ x y, e.A = some x → f.A = some y → x.block ≠ y.block := fun x y hx hy =>
  (List.pairwise_append.1 h).2.2 e (List.mem_of_getElem? he) f (by simp) x y hx hy
theorem ds_set {f e e' : El α} {i : Nat} (h : Ds (es ++ [f])) (he : es[i]? = some e) (hA : e'.A = e.A) : Ds (es.set i e' ++ [f]) := by
  have hi : i < es.length := (List.getElem?_eq_some_iff.1 he).1
  have := set_pairwise h (i := i) (e := e) (f := e') (by rw [List.getElem?_append_left hi]; exact he) hA
  rwa [List.set_append_left _ _ hi] at this
/-- Bytes of the call's own, narrowed to their own block. -/
theorem ow_narrow {m c : Nat} {B : Option Addr} {zs : List Int} (hf : Ow 5 .u8 w lo hi B m c zs) (hl : lo ≤ hi) : ∃ l r, lo ≤ l ∧ r ≤ hi ∧ (∀ q, l ≤ q → q < r → ∃ a, B = some a ∧ a.block = q) ∧ Ow 5 .u8 w l r B m c zs := by
  rcases hf.form with ⟨k0, k1, k2⟩ | ⟨q, cq, k0, k1, k2, k3, _⟩
  · have hz : zs = [] := List.eq_nil_of_length_eq_zero (by rw [hf.len, k1])
    exact ⟨hi, hi, hl, Nat.le_refl _, fun q h1 h2 => by omega, by rw [k0, k1, k2, hz]; exact Ow.nil_ _ _ _ _ _ hf.hi_⟩
  · have hh := hf.hi_
    refine ⟨q, q + 1, k1, by omega, fun q' h1 h2 => ⟨_, k0, by show q = q'; omega⟩, ?_⟩
    obtain ⟨⟨p1, p2⟩, p3, p4, p5⟩ := hf
    refine ⟨⟨p1, ?_⟩, p3, by omega, fun g' o e' => by rw [k0] at e'; injection e' with e'; injection e' with e' _; omega⟩
    rcases p2 with p2 | ⟨g', c', cur', e', r1, r2, r3⟩
    · exact Or.inl p2
    · injection e' with e1' e2' e3'
      rw [k0] at e1'; injection e1' with e1'; injection e1' with e1' _
      subst e1'
      exact Or.inr ⟨q, c', cur', by rw [k0, e3'], Nat.le_refl _, r2, r3⟩
/-- Elements of the call's own stay when bytes apart from theirs change. -/
theorem oe_apart {a b : Nat} {F : Option Addr} {l r m c : Nat} {zs : List Int} (h : Oe S w lo hi A n cap es) (hf : Ow 5 .u8 w l r F m c zs) (ht : Tch a b w w') (hq : ∀ q, a ≤ q → q < b → ∃ ad, F = some ad ∧ ad.block = q) (hd : ∀ e ∈ es, ∀ x y, F = some x → e.A = some y → x.block ≠ y.block) : Oe S w' lo hi A n cap es := by
  refine ⟨⟨h.row.1, ?_⟩, fun e he => ow_apart (h.body e he) ht hq (hd e he), h.ds, by have := h.hi_; have := ht.size; omega, h.lt⟩
  rcases h.row.2 with h2 | ⟨g, c', cur, e, g1, g2, g3⟩
  · exact Or.inl h2
  · refine Or.inr ⟨g, c', cur, e, g1, ?_, g3⟩
    rw [ht.block g (lt_of_block g2) ?_]
    · exact g2
    · rcases Nat.lt_or_ge g a with h1 | h1
      · exact Or.inl h1
      · rcases Nat.lt_or_ge g b with h2 | h2
        · exfalso
          obtain ⟨ad, h3, h4⟩ := hq g h1 h2
          rcases hf.form with ⟨k0, _⟩ | ⟨g', cur', k0, _, _, k3, _⟩
          · rw [k0] at h3; cases h3
          · rw [k0] at h3
            obtain rfl := Option.some.inj h3
            have h4 : g' = g := h4
            subst h4
            rw [g2] at k3
            simp only [Option.some.injEq, Obj.cells.injEq] at k3
            exact S.ne k3.2.1
        · exact Or.inr h2
end
end Go.Proofs.Ytjmenbpalihnnaa.mrw
end

section
namespace Go.Proofs.Ytjmenbpalihnnaa.mq
open Go.RowKit sl harn bx mrw
set_option linter.unusedVariables false

/-- To, Category, Deadline, Body. -/
abbrev Msg := Int × Int × Int × List Int
def zm : Msg := (0, 0, 0, [])
def msg : Sh Msg where
  T := 28
  s := 4
  C := fun x A n c => [.int .i64 x.1, .int .i64 x.2.1, .int .i64 x.2.2.1, .slice A n c]
  B := fun x => x.2.2.2
  len := fun _ _ _ _ => rfl
  one := fun x A n c u hu => by
    simp only [List.mem_cons, List.not_mem_nil, or_false] at hu
    rcases hu with rfl | rfl | rfl | rfl <;> rfl
  pos := by omega
  ne := by decide
/-- The value of a message, of a queue. -/
abbrev mV (x : Msg) (A : Option Addr) (n c : Nat) : Value := .agg #[.int .i64 x.1, .int .i64 x.2.1, .int .i64 x.2.2.1, .slice A n c]
abbrev qV (A : Option Addr) (n c : Nat) (d : Int) : Value := .agg #[.slice A n c, .int .i64 d]
/-- A message is valid. -/
def vm (x : Msg) : Bool := (decide (0 ≤ x.1 ∧ x.1 ≤ 15) || x.1 == 63) && (decide (0 ≤ x.2.1 ∧ x.2.1 ≤ 3) && (decide (0 ≤ x.2.2.1 ∧ x.2.2.1 ≤ 1000000000000) && decide ((x.2.2.2.length : Int) ≤ 100)))
def vq (ms : List Msg) (d : Int) : Bool := decide (ms.length ≤ 12) && (decide (0 ≤ d) && ms.all vm)
/-- How many of the first k have this category. -/
def cnt (x : Int) (ms : List Msg) : Nat → Nat
  | 0 => 0
  | k + 1 => if (ms.getD k zm).2.1 = x then cnt x ms k + 1 else cnt x ms k
theorem cnt_le (x : Int) (ms : List Msg) : ∀ k, cnt x ms k ≤ k
  | 0 => Nat.le_refl _
  | k + 1 => by
    have := cnt_le x ms k
    unfold cnt
    split <;> omega
/-- Which of the first k is chosen by the order r; -1 if there is none. -/
def bst (r : Int → Int → Bool) (ms : List Msg) : Nat → Int
  | 0 => -1
  | k + 1 => if bst r ms k < 0 then (k : Int) else if r (ms.getD k zm).2.1 (ms.getD (bst r ms k).toNat zm).2.1 = true then (k : Int) else bst r ms k
theorem bst_range (r : Int → Int → Bool) (ms : List Msg) : ∀ k, -1 ≤ bst r ms k ∧ bst r ms k < k ∧ (0 < k → 0 ≤ bst r ms k)
  | 0 => by unfold bst; omega
  | k + 1 => by
    have h := bst_range r ms k
    unfold bst
    split
    · omega
    · split <;> omega
def gt (m e : Int) : Bool := decide (e < m)
def le (m e : Int) : Bool := decide (m ≤ e)
/-- Removal of the element number i. -/
def enq (ms : List Msg) (d : Int) (m : Msg) : List Msg × Int :=
  if vq ms d && vm m then (if (ms ++ [m]).length ≤ 12 then (ms ++ [m], d) else ((ms ++ [m]).eraseIdx (bst le (ms ++ [m]) (ms ++ [m]).length).toNat, IntKind.i64.wrap (d + 1))) else (ms, d)
def tk (ms : List Msg) (i : Int) : List Msg × Msg × Bool := if 0 ≤ i ∧ i < ms.length then (ms.eraseIdx i.toNat, ms.getD i.toNat zm, true) else (ms, zm, false)
/-- Those of the first k that are not expired; the number of dropped ones. -/
def keep (t : Int) (ms : List Msg) : Nat → List Msg
  | 0 => []
  | k + 1 => if (ms.getD k zm).2.2.1 < t then keep t ms k else keep t ms k ++ [ms.getD k zm]
def drp (t : Int) (ms : List Msg) (d : Int) : Nat → Int
  | 0 => d
  | k + 1 => if (ms.getD k zm).2.2.1 < t then IntKind.i64.wrap (drp t ms d k + 1) else drp t ms d k
theorem keep_len (t : Int) (ms : List Msg) : ∀ k, (keep t ms k).length ≤ k
  | 0 => Nat.le_refl _
  | k + 1 => by
    have := keep_len t ms k
    unfold keep
    split
    · omega
    · simp; omega
/-- How much the messages hold. -/
def blk (ms : List Msg) : Nat := (ms.map fun x => x.2.2.2.length).sum
theorem blk_snoc (ms : List Msg) (m : Msg) : blk (ms ++ [m]) = blk ms + m.2.2.2.length := by simp [blk]
theorem getD_of {ms : List Msg} {i : Nat} {x : Msg} (h : ms[i]? = some x) : ms.getD i zm = x := by rw [List.getD_eq_getElem?_getD, h]; rfl
theorem take_snoc {ms : List Msg} {i : Nat} {x : Msg} (h : ms[i]? = some x) : ms.take (i + 1) = ms.take i ++ [x] := by rw [List.take_add_one, h]; rfl

section
variable {w w' : World} {lo hi n cap : Nat} {A : Option Addr} {ms : List Msg}
/-- What a round is told of the message number k. -/
theorem at_ {k : Nat} (h : Rq msg w lo hi A n cap ms) (hk : k < n) : ∃ b off x, A = some ⟨b, off, none⟩ ∧ ms[k]? = some x ∧ lo ≤ b ∧ b < hi ∧ ∃ A' n' c', Rd .u8 w lo hi A' n' c' x.2.2.2 ∧
    w.cell? ⟨b, off + k * 4, none⟩ = some (.int .i64 x.1) ∧ w.cell? ⟨b, off + k * 4 + 1, none⟩ = some (.int .i64 x.2.1) ∧ w.cell? ⟨b, off + k * 4 + 2, none⟩ = some (.int .i64 x.2.2.1) ∧ w.cell? ⟨b, off + k * 4 + 3, none⟩ = some (.slice A' n' c') := by
  obtain ⟨b, off, x, e, hx, h1, h2, A', n', c', hr, hb⟩ := h.at_ hk
  exact ⟨b, off, x, e, hx, h1, h2, A', n', c', hb, hr 0 _ rfl, hr 1 _ rfl, hr 2 _ rfl, hr 3 _ rfl⟩
end
/-- A queue that a function hands back: its messages are the call's own. -/
def QPost (q : List Msg × Int) (w : World) (e : Ending) (w' : World) : Prop :=
  ∃ A n cap, e = .returned (qV A n cap q.2) ∧ Oq msg w' w.heap.size w'.heap.size A n cap q.1 ∧ Below w.heap.size w w'
def XPost (x : Msg) (w : World) (e : Ending) (w' : World) : Prop :=
  ∃ A n cap, e = .returned (mV x A n cap) ∧ Ow 5 .u8 w' w.heap.size w'.heap.size A n cap x.2.2.2 ∧ Below w.heap.size w w'
end Go.Proofs.Ytjmenbpalihnnaa.mq
end
