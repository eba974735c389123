/- A region that draws its order, by what each operation leaves: one duty for each operation, none for an order. Each operation is shown to leave a value that is right, in whatever order the others came; what is right stays so; one operation that writes (the last in every order) may end the region. Condition: the region's form, a Bool that the kernel reckons. -/
import Derived.Orders
import Derived.StillTail
import Derived.Below
namespace Go.Proofs.Ytalfihfielgmpaa.reg
open Go Go.RowKit
set_option linter.unusedVariables false

/-- The slot that an operation writes. -/
def dst (ops : Array Oper) (j : Nat) : Option Tmp := (ops[j]?).bind (·.dst)
def look (a : Act) : Option Tmp → Value
  | some d => a.tmps.getD d undef
  | none => undef
/-- The slot that an operation writes, or, of one that writes none, a slot that it refers to. -/
def slot (rf : List (Nat × Tmp)) (j : Nat) : Option Tmp → Option Tmp
  | some d => some d
  | none => rf.lookup j
/-- The value of which it is said what is right. -/
def told (rf : List (Nat × Tmp)) (c : Act) (j : Nat) (v : Value) : Option Tmp → Value
  | some _ => v
  | none => look c (rf.lookup j)
/-- No way out but the normal one. -/
def QF : Exit → Act → World → Prop := fun _ _ _ => False
/-- For whatever right values of these operations. -/
def Obs (ops : Array Oper) (R : Nat → Value → World → Prop) (w : World) (body : Act → Prop) : List (Nat × Tmp) → Act → Prop
  | [], b => body b
  | (j, d) :: l, b => ∀ v, R j v w → Obs ops R w body l (b.put (some d) v)
/-- What stood there stands. -/
abbrev Bel (w w' : World) : Prop := Below w.heap.size w w'
/-- One operation's duty. E: how it may change the world. -/
def Ob (E : Nat → World → World → Prop) (rf : List (Nat × Tmp)) (P : Program) (ops : Array Oper) (R : Nat → Value → World → Prop) (C : World → Prop) (a0 : Act) (i : Nat) (o : Oper) (d : List (Nat × Tmp)) : Prop :=
  ∀ w, C w → Obs ops R w (fun c => ∀ K : Act → World → Prop, (∀ v w', R i (told rf c i v o.dst) w' → E i w w' → K (c.put o.dst v) w') →
    if Region.wanted o (yielded ops c.tmps) = true then Oper.wp P o c w K QF else K (c.put o.dst undef) w) d a0
/-- All duties: one for each operation for which a list stands. -/
def All (E : Nat → World → World → Prop) (rf : List (Nat × Tmp)) (P : Program) (ops : Array Oper) (R : Nat → Value → World → Prop) (C : World → Prop) (a0 : Act) : Nat → List Oper → List (Option (List (Nat × Tmp))) → Prop
  | i, o :: l, some d :: nd => Ob E rf P ops R C a0 i o d ∧ All E rf P ops R C a0 (i + 1) l nd
  | i, _ :: l, none :: nd => All E rf P ops R C a0 (i + 1) l nd
  | _, _, _ => True

/-- What is right of a value and stays so. -/
def Stay (E : World → World → Prop) : Type := { p : Value → World → Prop // ∀ v w w', p v w → E w w' → p v w' }
def is {E : World → World → Prop} (x : Value) : Stay E := ⟨fun v _ => v = x, fun _ _ _ h _ => h⟩
/-- What is right of a value alone. -/
def val {E : World → World → Prop} (p : Value → Prop) : Stay E := ⟨fun v _ => p v, fun _ _ _ h _ => h⟩
def free {E : World → World → Prop} : Stay E := ⟨fun _ _ => True, fun _ _ _ _ _ => trivial⟩
def rl {E : World → World → Prop} (l : List (Stay E)) : Nat → Value → World → Prop := fun i v w => (l.getD i free).1 v w
theorem rl_keep {E : World → World → Prop} (l : List (Stay E)) : ∀ j v w w', rl l j v w → E w w' → rl l j v w' := fun j v w w' h hb => (l.getD j free).2 v w w' h hb

theorem edge_of {ops : Array Oper} {j i : Nat} {oj : Oper} (h : Region.waitsFor .any ops j i = true) (hj : ops[j]? = some oj) : ∃ e ∈ oj.after, Region.binds .any e = true ∧ e.on = i := by
  obtain ⟨o, ho, h2⟩ := Region.waitsFor_spec h
  obtain rfl := Option.some.inj (ho.symm.trans hj)
  exact h2
/-- The region's form. s: where the operations begin that end it, each behind the one before it, or a number beyond; N: how many slots; nd: whose values each operation looks at. -/
def okB (ops : Array Oper) (s N : Nat) (rf : List (Nat × Tmp)) (nd : List (Option (List (Nat × Tmp)))) : Bool :=
  let n := ops.size
  Region.noSelect ops &&
  (List.range n).all (fun i => (ops.getD i default).after.all fun e => !Region.binds .any e || decide (e.on < i)) &&
  (List.range n).all (fun i => (List.range n).all fun j => i == j || (dst ops i).isNone || dst ops i != dst ops j) &&
  (List.range n).all (fun i => match dst ops i with | some d => decide (d < N) | none => true) &&
  (decide (n ≤ s) || (List.range s).all fun i => (List.range (s + 1)).any fun j => decide (i < j) && Region.waitsFor .any ops j i) &&
  (List.range n).all (fun t => decide (t ≤ s) || Region.waitsFor .any ops t (t - 1)) &&
  rf.all (fun x => (dst ops x.1).isNone && (nd.getD x.1 none).any (fun d => d.any fun j => j.2 == x.2) && decide (x.1 < s)) &&
  (List.range n).all (fun i => decide (s ≤ i) || match nd[i]? with
    | some (some d) => d.all (fun j => Region.waitsFor .any ops i j.1 && dst ops j.1 == some j.2 && decide (j.1 < s)) && ((ops.getD i default).looksAt ops).all fun k => d.any (fun j => j.2 == k) || (List.range s).all fun j => dst ops j != some k
    | _ => false)

theorem all_get {E : Nat → World → World → Prop} {rf : List (Nat × Tmp)} {P : Program} {ops : Array Oper} {R : Nat → Value → World → Prop} {C : World → Prop} {a0 : Act} : ∀ (l : List Oper) (nd : List (Option (List (Nat × Tmp)))) (k : Nat), All E rf P ops R C a0 k l nd → ∀ (i : Nat) (o : Oper) (d : List (Nat × Tmp)), l[i]? = some o → nd[i]? = some (some d) → Ob E rf P ops R C a0 (k + i) o d
  | [], _, _, _, i, o, d, ho, _ => by simp at ho
  | o :: l, [], _, _, i, _, d, _, hd => by simp at hd
  | o :: l, none :: nd, k, h, 0, _, d, _, hd => by simp at hd
  | o :: l, none :: nd, k, h, i + 1, o', d, ho, hd => by
    have := all_get l nd (k + 1) h i o' d (by simpa using ho) (by simpa using hd)
    rwa [show k + 1 + i = k + (i + 1) by omega] at this
  | o :: l, some e :: nd, k, h, 0, o', d, ho, hd => by
    simp at ho hd
    subst ho hd
    exact h.1
  | o :: l, some e :: nd, k, h, i + 1, o', d, ho, hd => by
    have := all_get l nd (k + 1) h.2 i o' d (by simpa using ho) (by simpa using hd)
    rwa [show k + 1 + i = k + (i + 1) by omega] at this

section
variable {P : Program} {ops : Array Oper} {Q : Exit → Act → World → Prop} {C : World → Prop} {R : Nat → Value → World → Prop} {a0 : Act} {E : Nat → World → World → Prop} {rf : List (Nat × Tmp)}

/-- The frame b with the slots of these operations as they are in a. -/
def puts (ops : Array Oper) (a : Act) : List (Nat × Tmp) → Act → Act
  | [], b => b
  | (j, d) :: l, b => puts ops a l (b.put (some d) (look a (some d)))
theorem obs_puts {w : World} {body : Act → Prop} {a : Act} : ∀ (l : List (Nat × Tmp)) (b : Act), Obs ops R w body l b → (∀ j ∈ l, R j.1 (look a (some j.2)) w) → body (puts ops a l b)
  | [], _, h, _ => h
  | (j, d) :: l, b, h, hR => obs_puts l _ (h _ (hR (j, d) (by simp))) fun k hk => hR k (by simp [hk])
theorem obs_mono {w : World} {f g : Act → Prop} (h : ∀ c, f c → g c) : ∀ (l : List (Nat × Tmp)) (b : Act), Obs ops R w f l b → Obs ops R w g l b
  | [], b, hh => h b hh
  | (_, _) :: l, b, hh => fun v hv => obs_mono h l _ (hh v hv)
theorem put_size (a : Act) (x : Option Tmp) (v : Value) : (a.put x v).tmps.size = a.tmps.size := by cases x <;> simp [Act.put]
theorem put_defers (a : Act) (x : Option Tmp) (v : Value) : (a.put x v).defers = a.defers := by cases x <;> rfl
theorem put_ne {a : Act} {x : Option Tmp} {v : Value} {k : Nat} (h : x ≠ some k) : (a.put x v).tmps.getD k undef = a.tmps.getD k undef := by
  cases x with
  | none => rfl
  | some d =>
    have hne : d ≠ k := fun e => h (by rw [e])
    simp [Act.put, Array.getElem?_setIfInBounds_ne hne]
theorem put_at {a : Act} {v : Value} {k : Nat} (h : k < a.tmps.size) : (a.put (some k) v).tmps.getD k undef = v := by
  simp [Act.put, h]
theorem beyond {a : Act} {k : Nat} (h : ¬ k < a.tmps.size) : a.tmps.getD k undef = undef := by
  simp [Array.getElem?_eq_none (Nat.le_of_not_lt h)]
theorem puts_size (a : Act) : ∀ (l : List (Nat × Tmp)) (b : Act), (puts ops a l b).tmps.size = b.tmps.size
  | [], _ => rfl
  | (j, d) :: l, b => by rw [puts, puts_size a l, put_size]
theorem puts_defers (a : Act) : ∀ (l : List (Nat × Tmp)) (b : Act), (puts ops a l b).defers = b.defers
  | [], _ => rfl
  | (j, d) :: l, b => by rw [puts, puts_defers a l, put_defers]
theorem puts_kept (a : Act) {k : Nat} : ∀ (l : List (Nat × Tmp)) (b : Act), a.tmps.size = b.tmps.size → b.tmps.getD k undef = a.tmps.getD k undef → (puts ops a l b).tmps.getD k undef = a.tmps.getD k undef
  | [], _, _, h => h
  | (j, d) :: l, b, hs, h => by
    rw [puts]
    refine puts_kept a l _ (by rw [put_size]; exact hs) ?_
    by_cases hk : d = k
    · rw [hk]
      by_cases hlt : k < b.tmps.size
      · rw [put_at hlt]; rfl
      · rw [beyond (by rw [put_size]; exact hlt), beyond (a := a) (by omega)]
    · rw [put_ne (by simpa using hk)]; exact h
theorem puts_in (a : Act) {k : Nat} : ∀ (l : List (Nat × Tmp)) (b : Act), a.tmps.size = b.tmps.size → (∃ j ∈ l, j.2 = k) → (puts ops a l b).tmps.getD k undef = a.tmps.getD k undef
  | [], _, _, h => by obtain ⟨j, hj, _⟩ := h; cases hj
  | (j, d) :: l, b, hs, h => by
    rw [puts]
    by_cases hk : d = k
    · refine puts_kept a l _ (by rw [put_size]; exact hs) ?_
      rw [hk]
      by_cases hlt : k < b.tmps.size
      · rw [put_at hlt]; rfl
      · rw [beyond (by rw [put_size]; exact hlt), beyond (a := a) (by omega)]
    · refine puts_in a l _ (by rw [put_size]; exact hs) ?_
      obtain ⟨i, hi, he⟩ := h
      rcases List.mem_cons.1 hi with rfl | hi
      · exact absurd he hk
      · exact ⟨i, hi, he⟩
theorem act_eq {a b : Act} (h1 : a.tmps.size = b.tmps.size) (h2 : ∀ k, a.tmps.getD k undef = b.tmps.getD k undef) (h3 : a.defers = b.defers) : a = b := by
  obtain ⟨t, d⟩ := a
  obtain ⟨t', d'⟩ := b
  simp only at h1 h2 h3
  subst h3
  have : t = t' := Array.ext h1 fun i hi hi' => by
    have := h2 i
    simp [hi, hi'] at this
    exact this
  rw [this]

/-- Two frames that agree where an operation looks. -/
theorem exec_same {o : Oper} {a c : Act} (hs : ∀ cs b, o.op ≠ .select cs b) (h : ∀ k ∈ o.looksAt ops, a.tmps.getD k undef = c.tmps.getD k undef) : execOp a.eval o = execOp c.eval o :=
  execOp_congr o hs fun x hx => by
    cases x with
    | tmp t => exact h t (List.mem_append_left _ (List.mem_filterMap.2 ⟨.tmp t, by simpa using hx, rfl⟩))
    | _ => rfl
theorem wanted_same {o : Oper} {a c : Act} (hz : a.tmps.size = c.tmps.size) (h : ∀ k ∈ o.looksAt ops, a.tmps.getD k undef = c.tmps.getD k undef) : Region.wanted o (yielded ops a.tmps) = Region.wanted o (yielded ops c.tmps) := by
  unfold Region.wanted
  cases hg : o.guard with
  | none => rfl
  | some gw =>
    obtain ⟨g, want⟩ := gw
    have hy : yielded ops a.tmps g = yielded ops c.tmps g := by
      unfold yielded
      cases ht : (ops[g]?).bind (·.dst) with
      | none => rfl
      | some t =>
        have := h t (List.mem_append_right _ (by rw [hg]; simp [ht]))
        have e : a.tmps[t]? = c.tmps[t]? := by
          by_cases hlt : t < a.tmps.size
          · have hlt' : t < c.tmps.size := hz ▸ hlt
            simp [hlt, hlt'] at this ⊢
            exact this
          · rw [Array.getElem?_eq_none (Nat.le_of_not_lt hlt), Array.getElem?_eq_none (Nat.le_of_not_lt (hz ▸ hlt))]
        simp [e]
    simp [hy]
/-- An operation's way, from one frame to another that agrees where it looks. -/
theorem upon_move {o : Oper} {a c : Act} {K K' : Act → World → Prop} {r : Result Next} (hk : ∀ v w', K (c.put o.dst v) w' → K' (a.put o.dst v) w') (hd : ∀ d w', ¬ K ({ c with defers := d :: c.defers }.put o.dst undef) w')
    (h : o.upon P c K QF r) : o.upon P a K' Q r := by
  cases r with
  | ok n w' =>
    cases n <;> simp only [Oper.upon] at h ⊢
    case value u => exact hk _ _ h
    case skip => exact hk _ _ h
    case defer d => exact absurd h (hd _ _)
    case enter f args =>
      refine Calls.mono h fun e w'' he => ?_
      cases e with
      | returned u => exact hk _ _ he
      | panicked c => exact he.elim
      | outgrown => obtain ⟨_, _, he⟩ := he; exact he.elim
    case row row args => exact Rows.mono h fun u w'' he => hk _ _ he
  | halt x w' =>
    cases x <;> simp only [Oper.upon] at h ⊢
    case panic u => exact h.elim

structure Inv (rf : List (Nat × Tmp)) (C : World → Prop) (R : Nat → Value → World → Prop) (ops : Array Oper) (a0 : Act) (s : Nat) (L : Array Bool) (a : Act) (w : World) : Prop where
  c : C w
  len : L.size = ops.size
  closed : ∀ j oj, ops[j]? = some oj → L.getD j false = true → ∀ e ∈ oj.after, Region.binds .any e = true → L.getD e.on false = true
  tail : ∀ t, s ≤ t → L.getD t false = false
  defers : a.defers = a0.defers
  size : a.tmps.size = a0.tmps.size
  base : ∀ k, (∀ j, L.getD j false = true → dst ops j ≠ some k) → a.tmps.getD k undef = a0.tmps.getD k undef
  right : ∀ j, L.getD j false = true → (slot rf j (dst ops j)).isSome = true → R j (look a (slot rf j (dst ops j))) w

theorem set_at {L : Array Bool} {j : Nat} (hj : j < L.size) : (L.setIfInBounds j true).getD j false = true := by simp [hj]

/-- What the Bool says. -/
structure Ok (ops : Array Oper) (s N : Nat) (rf : List (Nat × Tmp)) (nd : List (Option (List (Nat × Tmp)))) : Prop where
  sel : Region.noSelect ops = true
  back : ∀ i o, ops[i]? = some o → ∀ e ∈ o.after, Region.binds .any e = true → e.on < i
  apart : ∀ i j d, i < ops.size → j < ops.size → i ≠ j → dst ops i = some d → dst ops j ≠ some d
  room : ∀ i d, dst ops i = some d → d < N
  ends : s < ops.size → ∀ i, i < s → ∃ j, j ≤ s ∧ i < j ∧ Region.waitsFor .any ops j i = true
  chain : ∀ t, s < t → t < ops.size → Region.waitsFor .any ops t (t - 1) = true
  refs : ∀ j d, rf.lookup j = some d → dst ops j = none ∧ j < s ∧ ∃ l k, nd[j]? = some (some l) ∧ (k, d) ∈ l
  need : ∀ i o, ops[i]? = some o → i < s → ∃ d, nd[i]? = some (some d) ∧ (∀ j ∈ d, Region.waitsFor .any ops i j.1 = true ∧ dst ops j.1 = some j.2 ∧ j.1 < s) ∧
    ∀ k ∈ o.looksAt ops, (∃ j ∈ d, j.2 = k) ∨ ∀ j, j < s → dst ops j ≠ some k
theorem dst_lt {j : Nat} {d : Tmp} (h : dst ops j = some d) : j < ops.size := by
  unfold dst at h
  rcases Nat.lt_or_ge j ops.size with h' | h'
  · exact h'
  · rw [Array.getElem?_eq_none h'] at h; cases h
theorem ok_of {s N : Nat} {nd : List (Option (List (Nat × Tmp)))} (h : okB ops s N rf nd = true) : Ok ops s N rf nd := by
  unfold okB at h
  simp only [Bool.and_eq_true] at h
  obtain ⟨⟨⟨⟨⟨⟨⟨h1, h4⟩, h5⟩, h6⟩, h7⟩, h9⟩, ha⟩, h8⟩ := h
  have lt_of : ∀ {i : Nat} {o : Oper}, ops[i]? = some o → i < ops.size ∧ ops.getD i default = o := fun {i o} ho => by
    have hi := (Array.getElem?_eq_some_iff.1 ho).1
    exact ⟨hi, by simp [ho]⟩
  refine ⟨h1, fun i o ho e he hb => ?_, fun i j d hi hj hne he => ?_, fun i d hd => ?_, fun hs i hi => ?_, fun t ht hn => ?_, fun j d hl => ?_, fun i o ho hne => ?_⟩
  · obtain ⟨hi, e0⟩ := lt_of ho
    have := List.all_eq_true.1 h4 i (List.mem_range.2 hi)
    rw [e0] at this
    have := Array.all_eq_true_iff_forall_mem.1 this e he
    simpa [hb] using this
  · have := List.all_eq_true.1 (List.all_eq_true.1 h5 i (List.mem_range.2 hi)) j (List.mem_range.2 hj)
    simp [hne, he] at this
    exact fun e => this e.symm
  · have := List.all_eq_true.1 h6 i (List.mem_range.2 (dst_lt hd))
    rw [hd] at this
    simpa using this
  · simp only [Bool.or_eq_true, decide_eq_true_eq] at h7
    rcases h7 with h7 | h7
    · omega
    · obtain ⟨j, hj, hb⟩ := List.any_eq_true.1 (List.all_eq_true.1 h7 i (List.mem_range.2 hi))
      simp only [Bool.and_eq_true, decide_eq_true_eq] at hb
      exact ⟨j, by have := List.mem_range.1 hj; omega, hb.1, hb.2⟩
  · have := List.all_eq_true.1 h9 t (List.mem_range.2 hn)
    simp only [Bool.or_eq_true, decide_eq_true_eq] at this
    rcases this with this | this
    · omega
    · exact this
  · have hm : (j, d) ∈ rf := by
      clear ha h8
      induction rf with
      | nil => cases hl
      | cons x l ih =>
        obtain ⟨x1, x2⟩ := x
        rw [List.lookup_cons] at hl
        split at hl
        · rename_i he
          have he' : j = x1 := by simpa using he
          rw [he', (Option.some.inj hl)]; exact List.mem_cons_self
        · exact List.mem_cons_of_mem _ (ih hl)
    have h := List.all_eq_true.1 ha _ hm
    simp only [Bool.and_eq_true, decide_eq_true_eq, Option.isNone_iff_eq_none] at h
    obtain ⟨⟨h2, h3⟩, hs⟩ := h
    refine ⟨h2, hs, ?_⟩
    rcases Nat.lt_or_ge j nd.length with hj | hj
    · have e : nd.getD j none = nd[j] := by simp [hj]
      rw [e] at h3
      cases hx : nd[j] with
      | none => rw [hx] at h3; cases h3
      | some l =>
        rw [hx] at h3
        obtain ⟨k, hk, he⟩ := List.any_eq_true.1 (by simpa using h3 : l.any (fun k => k.2 == d) = true)
        have he' : k.2 = d := by simpa using he
        exact ⟨l, k.1, by rw [List.getElem?_eq_getElem hj, hx], by rw [← he']; exact hk⟩
    · simp [List.getElem?_eq_none hj] at h3
  · obtain ⟨hi, e0⟩ := lt_of ho
    have := List.all_eq_true.1 h8 i (List.mem_range.2 hi)
    simp only [Bool.or_eq_true, decide_eq_true_eq] at this
    rcases this with this | this
    · omega
    · split at this
      · rename_i d hd
        simp only [Bool.and_eq_true] at this
        refine ⟨d, hd, fun j hj => ?_, fun k hk => ?_⟩
        · have h := List.all_eq_true.1 this.1 j hj
          simp only [Bool.and_eq_true, decide_eq_true_eq, beq_iff_eq] at h
          exact ⟨h.1.1, h.1.2, h.2⟩
        · have h := this.2
          rw [e0] at h
          have h := List.all_eq_true.1 h k hk
          simp only [Bool.or_eq_true] at h
          rcases h with h | h
          · obtain ⟨j, hj, hb⟩ := List.any_eq_true.1 h
            exact .inl ⟨j, hj, by simpa using hb⟩
          · refine .inr fun j hjs he => ?_
            have h := List.all_eq_true.1 h j (List.mem_range.2 hjs)
            rw [he] at h
            simp at h
      · cases this

/-- What is not yet done waits for nothing but what is not yet done: something may come up. -/
theorem some_ready {s N : Nat} {nd : List (Option (List (Nat × Tmp)))} (H : Ok ops s N rf nd) {L : Array Bool} (hl : L.size = ops.size) : ∀ (m j : Nat), j < m → j < ops.size → L.getD j true = false → Region.ready .any ops L ≠ []
  | 0, j, hjm, _, _ => by omega
  | m + 1, j, hjm, hj, hun => by
    by_cases hr : j ∈ Region.ready .any ops L
    · exact fun h => by rw [h] at hr; cases hr
    · have ho : ops[j]? = some ops[j] := Array.getElem?_eq_getElem hj
      have : ∃ e ∈ (ops[j]).after, Region.binds .any e = true ∧ L.getD e.on false = false := by
        refine Classical.byContradiction fun hn => hr (mem_ready.2 ⟨hun, _, ho, fun e he hb => ?_⟩)
        cases hx : L.getD e.on false with
        | true => rfl
        | false => exact absurd ⟨e, he, hb, hx⟩ hn
      obtain ⟨e, he, hb, hx⟩ := this
      have hlt := H.back j _ ho e he hb
      exact some_ready H hl m e.on (by omega) (by omega) (getD_in (by omega) hx)
/-- What ends the region begins when all others are done. -/
theorem tail_last {s N : Nat} {nd : List (Option (List (Nat × Tmp)))} (H : Ok ops s N rf nd) {L : Array Bool} {a : Act} {w : World} (I : Inv rf C R ops a0 s L a w) (hs : s ∈ Region.ready .any ops L) : ∀ (m i : Nat), s - i < m → i < s → L.getD i false = true
  | 0, i, h, _ => by omega
  | m + 1, i, h, hi => by
    obtain ⟨_, os, hos, hall⟩ := mem_ready.1 hs
    have hsl : s < ops.size := (Array.getElem?_eq_some_iff.1 hos).1
    cases hx : L.getD i false with
    | true => rfl
    | false =>
      exfalso
      obtain ⟨j, hj, hij, hw⟩ := H.ends hsl i hi
      by_cases hjs : j = s
      · subst hjs
        obtain ⟨e, he, hb, hon⟩ := edge_of hw hos
        have := hall e he hb
        rw [hon, hx] at this; cases this
      · have h2 := tail_last H I hs m j (by omega) (by omega)
        have hoj : ops[j]? = some (ops[j]'(by omega)) := Array.getElem?_eq_getElem (by omega)
        obtain ⟨e, he, hb, hon⟩ := edge_of hw hoj
        have := I.closed j _ hoj h2 e he hb
        rw [hon, hx] at this; cases this
theorem no_tail {s N : Nat} {nd : List (Option (List (Nat × Tmp)))} (H : Ok ops s N rf nd) {L : Array Bool} {a : Act} {w : World} (I : Inv rf C R ops a0 s L a w) {t : Nat} (ht : s < t) (hr : t ∈ Region.ready .any ops L) : False := by
  obtain ⟨_, o, ho, hall⟩ := mem_ready.1 hr
  obtain ⟨e, he, hb, hon⟩ := edge_of (H.chain t ht (Array.getElem?_eq_some_iff.1 ho).1) ho
  have := hall e he hb
  rw [hon, I.tail (t - 1) (by omega)] at this; cases this

/-- The numbers of the operations that are to be done, and their slots. -/
def heads (ops : Array Oper) (s : Nat) : List (Nat × Tmp) := (List.range s).filterMap fun j => (dst ops j).map fun d => (j, d)
theorem mem_heads {s : Nat} {x : Nat × Tmp} (h : x ∈ heads ops s) : x.1 < s ∧ dst ops x.1 = some x.2 := by
  obtain ⟨j, hr, hj⟩ := List.mem_filterMap.1 h
  obtain ⟨d, hd, rfl⟩ := Option.map_eq_some_iff.1 hj
  exact ⟨List.mem_range.1 hr, hd⟩
theorem to_heads {s j : Nat} {d : Tmp} (h1 : j < s) (h3 : dst ops j = some d) : (j, d) ∈ heads ops s :=
  List.mem_filterMap.2 ⟨j, List.mem_range.2 h1, by rw [h3]; rfl⟩
theorem all_done {s N : Nat} {nd : List (Option (List (Nat × Tmp)))} (H : Ok ops s N rf nd) {L : Array Bool} {a : Act} {w : World} (I : Inv rf C R ops a0 s L a w) (hd : ∀ i, i < s → i < ops.size → L.getD i false = true) {body : Act → Prop}
    (h : Obs ops R w body (heads ops s) a0) : body a := by
  have h1 := obs_puts (a := a) _ _ h fun j hj => by
    obtain ⟨h2, h4⟩ := mem_heads hj
    have := I.right j.1 (hd j.1 h2 (dst_lt h4)) (by rw [h4]; rfl)
    rwa [h4] at this
  have e : puts ops a (heads ops s) a0 = a := act_eq (by rw [puts_size]; exact I.size.symm) (fun k => by
    by_cases hk : ∃ j ∈ heads ops s, j.2 = k
    · exact puts_in a _ _ I.size hk
    · exact puts_kept a _ _ I.size (I.base k fun j hl he => hk ⟨(j, k), to_heads (by
        rcases Nat.lt_or_ge j s with h' | h'
        · exact h'
        · rw [I.tail j h'] at hl; cases hl) he, rfl⟩).symm) (by rw [puts_defers]; exact I.defers.symm)
  rwa [e] at h1
/-- One step. -/
theorem inv_step {s N : Nat} {nd : List (Option (List (Nat × Tmp)))} (H : Ok ops s N rf nd) (hN : a0.tmps.size = N) (hC : ∀ i w w', C w → E i w w' → C w') (hR : ∀ i j v w w', i ≠ j → R j v w → E i w w' → R j v w')
    {L : Array Bool} {a : Act} {w : World} (I : Inv rf C R ops a0 s L a w) {i : Nat} {o : Oper} (ho : ops[i]? = some o) (his : i < s) (hr : i ∈ Region.ready .any ops L) {v : Value} {w' : World} (hv : (slot rf i (dst ops i)).isSome = true → R i (told rf a i v (dst ops i)) w') (hb : E i w w') :
    Inv rf C R ops a0 s (L.setIfInBounds i true) (a.put o.dst v) w' := by
  obtain ⟨hun, o', ho', hall⟩ := mem_ready.1 hr
  obtain rfl : o' = o := Option.some.inj (ho'.symm.trans ho)
  have hd : dst ops i = o'.dst := by unfold dst; rw [ho]; rfl
  have hi : i < ops.size := (Array.getElem?_eq_some_iff.1 ho).1
  have hiL : i < L.size := by rw [I.len]; exact hi
  refine ⟨hC _ _ _ I.c hb, by simp [I.len], fun j oj hj hl e he hbi => ?_, fun t ht => by rw [getD_set_ne false (by omega)]; exact I.tail t ht, by rw [put_defers]; exact I.defers, by rw [put_size]; exact I.size, fun k hk => ?_, fun j hl hsm => ?_⟩
  · by_cases hij : i = j
    · subst hij
      obtain rfl : oj = o' := Option.some.inj (hj.symm.trans ho)
      exact getD_set_true (hall e he hbi)
    · rw [getD_set_ne false hij] at hl
      exact getD_set_true (I.closed j oj hj hl e he hbi)
  · have hik : dst ops i ≠ some k := hk i (set_at hiL)
    rw [put_ne (by rw [← hd]; exact hik)]
    exact I.base k fun j hl => hk j (getD_set_true hl)
  · by_cases hij : i = j
    · subst hij
      have hv' := hv hsm
      cases hdd : dst ops i with
      | some d =>
        rw [hdd] at hv'
        have : look (a.put o'.dst v) (slot rf i (some d)) = v := by
          rw [← hd, hdd]
          exact put_at (by rw [I.size, hN]; exact H.room i d hdd)
        rw [this]; exact hv'
      | none =>
        rw [hdd] at hv'
        have : look (a.put o'.dst v) (slot rf i none) = look a (rf.lookup i) := by rw [← hd, hdd]; rfl
        rw [this]; exact hv'
    · rw [getD_set_ne false hij] at hl
      have keep : look (a.put o'.dst v) (slot rf j (dst ops j)) = look a (slot rf j (dst ops j)) := by
        cases hdd : dst ops j with
        | some d => exact put_ne fun e => H.apart j i d (dst_lt hdd) hi (Ne.symm hij) hdd (by rw [hd]; exact e)
        | none =>
          cases hrf : rf.lookup j with
          | none => simp only [slot, hrf, look]
          | some d =>
            simp only [slot, hrf]
            obtain ⟨_, hjs, l, k, hl1, hkl⟩ := H.refs j d hrf
            have hjn : j < ops.size := by
              rcases Nat.lt_or_ge j ops.size with h' | h'
              · exact h'
              · simp [Array.getElem?_eq_none (show L.size ≤ j by rw [I.len]; exact h')] at hl
            have hoj : ops[j]? = some ops[j] := Array.getElem?_eq_getElem hjn
            obtain ⟨l', hl2, hdep, _⟩ := H.need j _ hoj hjs
            obtain rfl : l' = l := by simpa using hl2.symm.trans hl1
            obtain ⟨h1, h2, _⟩ := hdep (k, d) hkl
            obtain ⟨e, he, hbi, hon⟩ := edge_of h1 hoj
            have hkL := I.closed j _ hoj hl e he hbi
            rw [hon] at hkL
            refine put_ne fun e => ?_
            have hki : k ≠ i := fun e => by subst e; rw [getD_both hun] at hkL; cases hkL
            exact H.apart k i d (dst_lt h2) hi hki h2 (by rw [hd]; exact e)
      rw [keep]
      exact hR i j _ _ _ hij (I.right j hl hsm) hb

theorem step_op {l : List Oper} {s N : Nat} {nd : List (Option (List (Nat × Tmp)))} (H : Ok l.toArray s N rf nd) (hN : a0.tmps.size = N) (hC : ∀ i w w', C w → E i w w' → C w') (hR : ∀ i j v w w', i ≠ j → R j v w → E i w w' → R j v w')
    (hA : All E rf P l.toArray R C a0 0 l nd) {L : Array Bool} {a : Act} {w : World} (I : Inv rf C R l.toArray a0 s L a w) {i : Nat} (his : i < s) (hr : i ∈ Region.ready .any l.toArray L) {K : Act → World → Prop}
    (hK : ∀ a' w', Inv rf C R l.toArray a0 s (L.setIfInBounds i true) a' w' → K a' w') : wpOp P l.toArray Q i K a w := by
  obtain ⟨hun, o, ho, hall⟩ := mem_ready.1 hr
  have hd : dst l.toArray i = o.dst := by unfold dst; rw [ho]; rfl
  obtain ⟨d, hnd, hdep, hlook⟩ := H.need i o ho his
  have hlist : ∀ j ∈ d, L.getD j.1 false = true := fun j hj => by
    obtain ⟨e, he, hb, hon⟩ := edge_of (hdep j hj).1 ho
    rw [← hon]; exact hall e he hb
  have hob : Ob E rf P l.toArray R C a0 i o d := by
    have := all_get l nd 0 hA i o d (by simpa using ho) hnd
    rwa [Nat.zero_add] at this
  have hc := obs_puts (a := a) _ _ (hob w I.c) fun j hj => by
    have := I.right j.1 (hlist j hj) (by rw [(hdep j hj).2.1]; rfl)
    rwa [(hdep j hj).2.1] at this
  have hcs : (puts l.toArray a d a0).tmps.size = a.tmps.size := by rw [puts_size]; exact I.size.symm
  have hag : ∀ k ∈ o.looksAt l.toArray, a.tmps.getD k undef = (puts l.toArray a d a0).tmps.getD k undef := fun k hk => by
    rcases hlook k hk with h | h
    · exact (puts_in a d a0 I.size h).symm
    · refine (puts_kept a d a0 I.size (I.base k fun j hl => h j ?_).symm).symm
      rcases Nat.lt_or_ge j s with h' | h'
      · exact h'
      · rw [I.tail j h'] at hl; cases hl
  have hsel := Region.noSelect_spec H.sel i o
  have h1 := hc (fun a' w' => ∃ v, a' = (puts l.toArray a d a0).put o.dst v ∧ R i (told rf (puts l.toArray a d a0) i v o.dst) w' ∧ E i w w') fun v w' h2 h3 => ⟨v, rfl, h2, h3⟩
  have fin : ∀ v w', (∃ v', (puts l.toArray a d a0).put o.dst v = (puts l.toArray a d a0).put o.dst v' ∧ R i (told rf (puts l.toArray a d a0) i v' o.dst) w' ∧ E i w w') → K (a.put o.dst v) w' := fun v w' ⟨v', e, h2, h3⟩ =>
    hK _ _ (inv_step H hN hC hR I ho his hr (fun hsm => by
      rw [hd] at hsm ⊢
      cases hx' : o.dst with
      | some x =>
        rw [hx'] at e h2
        have hx : dst l.toArray i = some x := by rw [hd]; exact hx'
        have hlt : x < (puts l.toArray a d a0).tmps.size := by rw [puts_size, hN]; exact H.room i x hx
        have h4 : ((puts l.toArray a d a0).put (some x) v).tmps.getD x undef = ((puts l.toArray a d a0).put (some x) v').tmps.getD x undef := by rw [e]
        rw [put_at hlt, put_at hlt] at h4
        show R i v w'
        rw [h4]; exact h2
      | none =>
        rw [hx'] at h2 hsm
        show R i (look a (rf.lookup i)) w'
        have h2' : R i (look (puts l.toArray a d a0) (rf.lookup i)) w' := h2
        obtain ⟨x, hx⟩ := Option.isSome_iff_exists.1 hsm
        have hx2 : rf.lookup i = some x := hx
        rw [hx2] at h2' ⊢
        obtain ⟨_, _, l', k, hl1, hkl⟩ := H.refs i x hx2
        obtain rfl : l' = d := by simpa using hl1.symm.trans hnd
        have e2 : (puts l.toArray a l' a0).tmps.getD x undef = a.tmps.getD x undef := puts_in a l' a0 I.size ⟨(k, x), hkl, rfl⟩
        have e3 : look (puts l.toArray a l' a0) (some x) = look a (some x) := e2
        rw [← e3]; exact h2') h3)
  unfold wpOp
  rw [ho]
  simp only
  rw [wanted_same hcs.symm hag]
  split
  · rename_i hw
    rw [if_pos hw] at h1
    refine .inl ?_
    unfold Oper.wp at h1 ⊢
    rw [exec_same (fun cs b => hsel cs b ho) hag]
    refine upon_move fin (fun dd w' hh => ?_) h1
    obtain ⟨v', e, _⟩ := hh
    have := congrArg Act.defers e
    rw [put_defers, put_defers] at this
    exact absurd (congrArg List.length this) (by simp)
  · rename_i hw
    rw [if_neg hw] at h1
    exact fin _ _ h1

theorem count_set {L : Array Bool} {i : Nat} (h : L.getD i true = false) : (L.setIfInBounds i true).toList.count false + 1 = L.toList.count false := by
  have hi : i < L.size := by
    rcases Nat.lt_or_ge i L.size with h' | h'
    · exact h'
    · simp [Array.getElem?_eq_none h'] at h
  have hx : L[i] = false := by simpa [hi] using h
  have hm : false ∈ L.toList := by rw [← hx]; simp
  have hpos : 0 < L.toList.count false := List.count_pos_iff.2 hm
  rw [Array.toList_setIfInBounds, List.count_set (by simpa using hi)]
  have e : (L.toList[i]'(by simpa using hi) == false) = true := by simp [hx]
  rw [if_pos e, if_neg (by decide)]
  omega
theorem none_left {L : Array Bool} (h : L.toList.count false = 0) (i : Nat) : L.getD i true = true := by
  rcases Nat.lt_or_ge i L.size with h' | h'
  · have := List.count_eq_zero.1 h
    cases hx : L[i] with
    | true => simp [h', hx]
    | false => exact absurd (show false ∈ L.toList by rw [← hx]; simp) this
  · simp [Array.getElem?_eq_none h']

/-- A region without an end of its own, from any state. -/
theorem any_plain {l : List Oper} {N : Nat} {nd : List (Option (List (Nat × Tmp)))} (H : Ok l.toArray l.length N rf nd) (hN : a0.tmps.size = N) (hC : ∀ i w w', C w → E i w w' → C w') (hR : ∀ i j v w w', i ≠ j → R j v w → E i w w' → R j v w')
    (hA : All E rf P l.toArray R C a0 0 l nd) (hF : ∀ w, C w → Obs l.toArray R w (fun c => (∀ x ∈ rf, rf.lookup x.1 = some x.2 → R x.1 (look c (some x.2)) w) → Q .normal c w) (heads l.toArray l.length) a0) : ∀ (fuel : Nat) (L : Array Bool) (a : Act) (w : World), L.toList.count false ≤ fuel → Inv rf C R l.toArray a0 l.length L a w →
    wpAny P .any l.toArray Q fuel L a w := by
  intro fuel
  have fin : ∀ (L : Array Bool) (a : Act) (w : World), Region.ready .any l.toArray L = [] → Inv rf C R l.toArray a0 l.length L a w → Q .normal a w := fun L a w h0 I => by
    have hall : ∀ i, i < l.toArray.size → L.getD i false = true := fun i hi => by
      cases hx : L.getD i false with
      | true => rfl
      | false => exact absurd h0 (some_ready H I.len (i + 1) i (by omega) hi (getD_in (by rw [I.len]; exact hi) hx))
    refine all_done H I (fun i _ hi => hall i hi) (hF w I.c) fun x hx hlk => ?_
    obtain ⟨h1, h2, _⟩ := H.refs x.1 x.2 hlk
    have := I.right x.1 (hall x.1 (by simpa using h2)) (by rw [h1]; simp only [slot, hlk]; rfl)
    rw [h1] at this
    simp only [slot, hlk] at this
    exact this
  induction fuel with
  | zero =>
    intro L a w hc I
    have h0 : Region.ready .any l.toArray L = [] := List.eq_nil_iff_forall_not_mem.2 fun i hi => by
      have := (mem_ready.1 hi).1
      rw [none_left (by omega) i] at this; cases this
    exact ⟨h0, fin L a w h0 I⟩
  | succ fuel ih =>
    intro L a w hc I
    refine ⟨fun h0 => fin L a w h0 I, fun i hi => step_op H hN hC hR hA I ?_ hi fun a' w' I' => ih _ _ _ (by have := count_set (mem_ready.1 hi).1; omega) I'⟩
    obtain ⟨_, o, ho, _⟩ := mem_ready.1 hi
    simpa using (Array.getElem?_eq_some_iff.1 ho).1
/-- Which are done when the end begins. -/
def upTo (n s : Nat) : Array Bool := ((List.range n).map fun i => decide (i < s)).toArray
theorem is_upTo {L : Array Bool} {n s : Nat} (hl : L.size = n) (h1 : ∀ i, i < s → L.getD i false = true) (h2 : ∀ t, s ≤ t → L.getD t false = false) : L = upTo n s := by
  refine Array.ext (by simp [upTo, hl]) fun i hi hi' => ?_
  have e : L[i] = L.getD i false := by simp [hi]
  rw [e]
  simp only [upTo, List.getElem_toArray, List.getElem_map, List.getElem_range]
  rcases Nat.lt_or_ge i s with h' | h'
  · rw [h1 i h', decide_eq_true h']
  · rw [h2 i h', decide_eq_false (by omega)]
theorem count_upTo (n s : Nat) (h : s ≤ n) : (upTo n s).toList.count false = n - s := by
  induction n with
  | zero => simp [upTo]
  | succ n ih =>
    have e : (upTo (n + 1) s).toList = (upTo n s).toList ++ [decide (n < s)] := by simp [upTo, List.range_succ]
    rw [e, List.count_append]
    rcases Nat.lt_or_ge n s with h' | h'
    · have hs : s = n + 1 := by omega
      have h0 : (upTo n s).toList.count false = 0 := List.count_eq_zero.2 fun hm => by
        simp only [upTo, List.mem_map, List.mem_range] at hm
        obtain ⟨i, hi, hh⟩ := hm
        rw [decide_eq_true (by omega)] at hh; cases hh
      rw [h0, decide_eq_true h']; simp; omega
    · rw [ih h', decide_eq_false (by omega)]; simp; omega
/-- A region that a chain of operations from number s on ends, from any state. -/
theorem any_tail {l : List Oper} {s N : Nat} {nd : List (Option (List (Nat × Tmp)))} (hs : s < l.length) (H : Ok l.toArray s N rf nd) (hT : Region.seqB .any l.toArray (l.length - s) s (upTo l.length s) = true) (hN : a0.tmps.size = N) (hC : ∀ i w w', C w → E i w w' → C w')
    (hR : ∀ i j v w w', i ≠ j → R j v w → E i w w' → R j v w') (hA : All E rf P l.toArray R C a0 0 l nd) (hF : ∀ w, C w → Obs l.toArray R w (fun c => wpList P l.toArray Q (l.drop s) c w) (heads l.toArray s) a0) :
    ∀ (fuel : Nat) (L : Array Bool) (a : Act) (w : World), L.toList.count false = fuel → Inv rf C R l.toArray a0 s L a w → wpAny P .any l.toArray Q fuel L a w := by
  have hsl : s < l.toArray.size := by simpa using hs
  intro fuel
  induction fuel with
  | zero =>
    intro L a w hc I
    have h1 := none_left (L := L) (by omega) s
    have h2 := getD_in (by rw [I.len]; exact hsl) (I.tail s (Nat.le_refl _))
    rw [h1] at h2; cases h2
  | succ fuel ih =>
    intro L a w hc I
    by_cases hall : ∀ i, i < s → L.getD i false = true
    · have hu : L = upTo l.length s := is_upTo (by rw [I.len]; simp) hall I.tail
      have hcc := count_upTo l.length s (by omega)
      rw [← hu, hc] at hcc
      have h1 := all_done H I (fun i h _ => hall i h) (hF w I.c)
      have := wpAny_of_seq (md := .any) (Q' := Q) (l.drop s) s L a w (fun j => by simp [List.getElem?_drop]) (by rw [hu, List.length_drop]; exact hT) h1
      rwa [List.length_drop, ← hcc] at this
    · refine ⟨fun h0 => absurd h0 (some_ready H I.len (s + 1) s (by omega) hsl (getD_in (by rw [I.len]; exact hsl) (I.tail s (Nat.le_refl _)))), fun i hi => ?_⟩
      have his : i < s := by
        rcases Nat.lt_trichotomy i s with h | h | h
        · exact h
        · subst h; exact absurd (fun j hj => tail_last H I hi (i - j + 1) j (by omega) hj) hall
        · exact (no_tail H I h hi).elim
      exact step_op H hN hC hR hA I his hi fun a' w' I' => ih _ _ _ (by have := count_set (mem_ready.1 hi).1; omega) I'

theorem inv_start {s : Nat} {w : World} (hc : C w) : Inv rf C R ops a0 s (Array.replicate ops.size false) a0 w :=
  have h0 : ∀ j, (Array.replicate ops.size false).getD j false = false := fun j => by
    rcases Nat.lt_or_ge j ops.size with h | h
    · simp [h]
    · simp [h]
  ⟨hc, by simp, fun j oj _ h1 => (by rw [h0] at h1; cases h1), fun t _ => h0 t, rfl, rfl, fun _ _ => rfl, fun j h1 => (by rw [h0] at h1; cases h1)⟩

/-- **A region that draws its order and that a chain of operations (from number s on) ends.** -/
theorem region_tail {id : Nat} {l : List Oper} {w : World} (E : World → World → Prop) (s N : Nat) (nd : List (Option (List (Nat × Tmp)))) (hd : List (Nat × Tmp)) (C : World → Prop) (R : Nat → Value → World → Prop) (hm : P.follows .mixedOrders = true) (hs : decide (s < l.length) = true) (hB : okB l.toArray s N [] nd = true)
    (hT : Region.seqB .any l.toArray (l.length - s) s (upTo l.length s) = true) (hN : a0.tmps.size = N) (hC : ∀ w w', C w → E w w' → C w') (hR : ∀ j v w w', R j v w → E w w' → R j v w') (h0 : C w.drew) (hH : heads l.toArray s = hd) (hA : All (fun _ => E) [] P l.toArray R C a0 0 l nd)
    (hF : ∀ w, C w → Obs l.toArray R w (fun c => wpList P l.toArray Q (l.drop s) c w) hd a0) : (Code.region id l.toArray true).wp P Q a0 w :=
  wp_region_any hm (by
    subst hH
    exact any_tail (Q := Q) (E := fun _ => E) (rf := []) (of_decide_eq_true hs) (ok_of hB) hT hN (fun _ => hC) (fun _ j v w w' _ => hR j v w w') hA hF _ _ a0 w.drew (by simp) (inv_start h0))
/-- **A region that draws its order and whose operations only make memory.** -/
theorem region_plain {id : Nat} {l : List Oper} {w : World} (E : World → World → Prop) (N : Nat) (nd : List (Option (List (Nat × Tmp)))) (hd : List (Nat × Tmp)) (C : World → Prop) (R : Nat → Value → World → Prop) (hm : P.follows .mixedOrders = true) (hB : okB l.toArray l.length N [] nd = true) (hN : a0.tmps.size = N)
    (hC : ∀ w w', C w → E w w' → C w') (hR : ∀ j v w w', R j v w → E w w' → R j v w') (h0 : C w.drew) (hH : heads l.toArray l.length = hd) (hA : All (fun _ => E) [] P l.toArray R C a0 0 l nd)
    (hF : ∀ w, C w → Obs l.toArray R w (fun c => Q .normal c w) hd a0) : (Code.region id l.toArray true).wp P Q a0 w :=
  wp_region_any hm (by
    subst hH
    exact any_plain (Q := Q) (E := fun _ => E) (rf := []) (ok_of hB) hN (fun _ => hC) (fun _ j v w w' _ => hR j v w w') hA (fun w h => obs_mono (f := fun c => Q .normal c w) (g := fun c => (∀ x ∈ ([] : List (Nat × Tmp)), ([] : List (Nat × Tmp)).lookup x.1 = some x.2 → R x.1 (look c (some x.2)) w) → Q .normal c w) (fun _ q _ => q) _ _ (hF w h)) _ _ a0 w.drew (by simp) (inv_start h0))
/-- **A region that draws its order, each operation with a relation of its own; rf: of which slot's value it is said what an operation without a slot leaves.** In the end what it says of them holds too. -/
theorem region_free {id : Nat} {l : List Oper} {w : World} (E : Nat → World → World → Prop) (N : Nat) (rf : List (Nat × Tmp)) (nd : List (Option (List (Nat × Tmp)))) (hd : List (Nat × Tmp)) (C : World → Prop) (R : Nat → Value → World → Prop) (hm : P.follows .mixedOrders = true) (hB : okB l.toArray l.length N rf nd = true) (hN : a0.tmps.size = N)
    (hC : ∀ i w w', C w → E i w w' → C w') (hR : ∀ i j v w w', i ≠ j → R j v w → E i w w' → R j v w') (h0 : C w.drew) (hH : heads l.toArray l.length = hd) (hA : All E rf P l.toArray R C a0 0 l nd)
    (hF : ∀ w, C w → Obs l.toArray R w (fun c => (∀ x ∈ rf, rf.lookup x.1 = some x.2 → R x.1 (look c (some x.2)) w) → Q .normal c w) hd a0) : (Code.region id l.toArray true).wp P Q a0 w :=
  wp_region_any hm (by
    subst hH
    exact any_plain (Q := Q) (ok_of hB) hN hC hR hA hF _ _ a0 w.drew (by simp) (inv_start h0))
end
end Go.Proofs.Ytalfihfielgmpaa.reg
