/- Merged texts of this seat. Mrw: Slices whose elements are structs of several cells, one of them a slice of bytes: what such a slice that is read holds (Rq), what one of the call's own holds (Oe, Oq), whatever the struct. Condition: none. | Mrs: Rows of elements of several cells: an element stored behind the others, a cell changed, a slice of an element changed, an element removed. Condition: none. | Mra: Appends onto rows of elements of several cells, told exactly: the old slice stays, only its own block may change. Condition: together at most 2^30 elements. | Rgp: A region that draws its order, in which one operation appends an element onto a row of the call's own, and that a chain of operations ends. Condition: the region's form. | Mrd: An element removed from a row of the call's own; cuts of a slice of structs. Condition: none. | Qmm: Messages and queues as data: what each function of the chapter hands back; how a message lies in memory. Condition: none. | Qc1: CountCategory and NextMessage of both sides, the search by an order. Condition: none. | Qc2: IsValidMessage, IsValidQueue, NextMessage of both sides. Condition: none. | Qh1: The harness over messages and queues: sizes, copies, comparison, marks. Condition: sizes up to 2^26. | Qh2: The harness over queues: copy, comparison, marks. Condition: sizes up to 2^26. | Qc3: Copies of messages and of queues, program and specification. Condition: bodies up to 2^26 bytes. | Qc4: Copies of queues, program and specification. Condition: sizes up to 2^26. | Stv: A whole variable loaded, at the operation itself. Condition: none. | Qc5: ExpireMessages of both sides. Condition: sizes up to 2^26. | Qc6: Removal of one message: slices.Delete, withoutMessage. Condition: at most 2^26 messages. | Ux: Values of any type as data: what is read of one (R), what one of the call's own owns, block by block (O), how great it is, what marking it leaves; slices of numbers and slices of whatever elements. Condition: none. -/
import Derived.Deep.Cut
import Derived.Laws.MakeOwn
import Derived.Test.YtbkdbdhbmabgcaaG1
import Derived.Test.YtbkdbdhbmabgcaaG2
import Derived.Test.YtbkdbdhbmabgcaaG3
section
namespace Go.Proofs.Ytbkdbdhbmabgcaa.mrw
open Go.RowKit sl harn bx
set_option linter.unusedVariables false

/-- How an element lies in memory: its cells, one of them a slice of bytes. -/
structure Sh (α : Type) where
  T : TypeId
  s : Nat
  C : α → Option Addr → Nat → Nat → List Value
  B : α → List Int
  len : ∀ x A n c, (C x A n c).length = s
  one : ∀ x A n c, ∀ u ∈ C x A n c, u.oneCell' = true
  pos : 0 < s
  ne : T ≠ 5
/-- An element with the header of its slice. -/
structure El (α : Type) where
  x : α
  A : Option Addr
  n : Nat
  c : Nat

theorem rangeAt_same {w w' : World} {b o : Nat} {cs : List Value} (h : w.rangeAt b o cs) (hb : w'.heap[b]? = w.heap[b]?) : w'.rangeAt b o cs :=
  fun j v hj => (World.cell?_of_block (w := w) hb).trans (h j v hj)

section
variable {α : Type} (S : Sh α)
def cells (e : El α) : List Value := S.C e.x e.A e.n e.c
def flat (es : List (El α)) : List Value := es.flatMap (cells S)
theorem cells_len (e : El α) : (cells S e).length = S.s := S.len _ _ _ _
theorem flat_len (es : List (El α)) : (flat S es).length = es.length * S.s := by
  induction es with
  | nil => simp [flat]
  | cons e r ih =>
    have h1 : flat S (e :: r) = cells S e ++ flat S r := rfl
    rw [h1, List.length_append, cells_len, ih, List.length_cons, Nat.add_mul, Nat.one_mul, Nat.add_comm]
theorem flat_append (a b : List (El α)) : flat S (a ++ b) = flat S a ++ flat S b := by simp [flat]
theorem flat_one (es : List (El α)) : ∀ u ∈ flat S es, u.oneCell' = true := by
  intro u hu
  obtain ⟨e, _, h2⟩ := List.mem_flatMap.1 hu
  exact S.one _ _ _ _ u h2
theorem flat_at {es : List (El α)} {i : Nat} {e : El α} (h : es[i]? = some e) : ((flat S es).drop (i * S.s)).take S.s = cells S e := by
  induction es generalizing i with
  | nil => simp at h
  | cons f r ih =>
    have h1 : flat S (f :: r) = cells S f ++ flat S r := rfl
    cases i with
    | zero =>
      have : f = e := by simpa using h
      subst this
      rw [h1, Nat.zero_mul, List.drop_zero, List.take_append_of_le_length (by rw [cells_len]; omega), List.take_of_length_le (by rw [cells_len]; omega)]
    | succ i =>
      have h2 : r[i]? = some e := by simpa using h
      rw [h1, Nat.add_mul, Nat.one_mul, List.drop_append, List.drop_eq_nil_of_le (by rw [cells_len]; omega), List.nil_append, cells_len, Nat.add_sub_cancel]
      exact ih h2
theorem flat_cell {es : List (El α)} {i : Nat} {e : El α} (h : es[i]? = some e) {j : Nat} {v : Value} (hv : (cells S e)[j]? = some v) : (flat S es)[i * S.s + j]? = some v := by
  have hj : j < S.s := by have := (List.getElem?_eq_some_iff.1 hv).1; rwa [cells_len] at this
  rw [← flat_at S h, List.getElem?_take, if_pos hj, List.getElem?_drop] at hv
  exact hv
theorem flat_take (es : List (El α)) (k : Nat) : (flat S es).take (k * S.s) = flat S (es.take k) := by
  rcases Nat.lt_or_ge k es.length with h | h
  · conv => lhs; rw [← List.take_append_drop k es, flat_append]
    rw [List.take_append_of_le_length (by rw [flat_len, List.length_take, Nat.min_eq_left (by omega)]; omega), List.take_of_length_le (by rw [flat_len, List.length_take, Nat.min_eq_left (by omega)]; omega)]
  · rw [List.take_of_length_le h, List.take_of_length_le (by rw [flat_len]; exact Nat.mul_le_mul_right _ h)]
theorem flat_drop (es : List (El α)) (k : Nat) : (flat S es).drop (k * S.s) = flat S (es.drop k) := by
  rcases Nat.lt_or_ge k es.length with h | h
  · have e : (flat S (es.take k)).length = k * S.s := by rw [flat_len, List.length_take, Nat.min_eq_left (by omega)]
    conv => lhs; rw [← List.take_append_drop k es, flat_append]
    rw [List.drop_append, e, List.drop_eq_nil_of_le (by omega), Nat.sub_self, List.drop_zero, List.nil_append]
  · rw [List.drop_eq_nil_of_le h, List.drop_eq_nil_of_le (by rw [flat_len]; exact Nat.mul_le_mul_right _ h)]; rfl

/-- An element that is read at a place. -/
def At (w : World) (lo hi b o : Nat) (x : α) : Prop := ∃ A n c, w.rangeAt b o (S.C x A n c) ∧ Rd .u8 w lo hi A n c (S.B x)
/-- A slice of elements that is read. -/
def Rq (w : World) (lo hi : Nat) (A : Option Addr) (n cap : Nat) (xs : List α) : Prop :=
  xs.length = n ∧ n ≤ cap ∧ cap ≤ maxLen ∧ hi ≤ w.heap.size ∧ (0 < n → ∃ b off, A = some ⟨b, off, none⟩ ∧ lo ≤ b ∧ b < hi ∧ ∀ i x, xs[i]? = some x → At S w lo hi b (off + i * S.s) x)
/-- Their slices do not lie in one block. -/
def Ds (es : List (El α)) : Prop := es.Pairwise fun e f => ∀ a b, e.A = some a → f.A = some b → a.block ≠ b.block
/-- A slice of elements of the call's own, with the headers of their slices. -/
structure Oe (w : World) (lo hi : Nat) (A : Option Addr) (n cap : Nat) (es : List (El α)) : Prop where
  row : w.ownsRow lo S.T S.s (.slice A n cap) n (flat S es)
  body : ∀ e ∈ es, Ow 5 .u8 w lo hi e.A e.n e.c (S.B e.x)
  ds : Ds es
  hi_ : hi ≤ w.heap.size
  lt : ∀ g o, A = some ⟨g, o, none⟩ → g < hi
def Oq (w : World) (lo hi : Nat) (A : Option Addr) (n cap : Nat) (xs : List α) : Prop := ∃ es, es.map (·.x) = xs ∧ Oe S w lo hi A n cap es
end

section
variable {α : Type} {S : Sh α} {w w' : World} {lo hi n cap : Nat} {A : Option Addr} {xs : List α} {es : List (El α)}
theorem At.same {b o : Nat} {x : α} (h : At S w lo hi b o x) (hl : lo ≤ b) (hh : b < hi) (hs : w.heap.size ≤ w'.heap.size) (hb : ∀ b, lo ≤ b → b < hi → w'.heap[b]? = w.heap[b]?) : At S w' lo hi b o x := by
  obtain ⟨A, n, c, h1, h2⟩ := h
  exact ⟨A, n, c, rangeAt_same h1 (hb b hl hh), h2.same hs hb⟩
theorem Rq.len (h : Rq S w lo hi A n cap xs) : xs.length = n := h.1
theorem Rq.cap_ (h : Rq S w lo hi A n cap xs) : n ≤ cap ∧ cap ≤ 9223372036854775807 := ⟨h.2.1, by have := h.2.2.1; unfold maxLen at this; omega⟩
theorem Rq.hi_ (h : Rq S w lo hi A n cap xs) : hi ≤ w.heap.size := h.2.2.2.1
theorem Rq.at_ (h : Rq S w lo hi A n cap xs) {i : Nat} (hi' : i < n) : ∃ b off x, A = some ⟨b, off, none⟩ ∧ xs[i]? = some x ∧ lo ≤ b ∧ b < hi ∧ At S w lo hi b (off + i * S.s) x := by
  obtain ⟨b, off, e, h1, h2, h3⟩ := h.2.2.2.2 (by omega)
  have hl : i < xs.length := by rw [h.len]; exact hi'
  exact ⟨b, off, xs[i], e, List.getElem?_eq_getElem hl, h1, h2, h3 i _ (List.getElem?_eq_getElem hl)⟩
theorem Rq.same (h : Rq S w lo hi A n cap xs) (hs : w.heap.size ≤ w'.heap.size) (hb : ∀ b, lo ≤ b → b < hi → w'.heap[b]? = w.heap[b]?) : Rq S w' lo hi A n cap xs := by
  obtain ⟨h1, h2, h3, h4, h5⟩ := h
  refine ⟨h1, h2, h3, by omega, fun hn => ?_⟩
  obtain ⟨b, off, e, g1, g2, g3⟩ := h5 hn
  exact ⟨b, off, e, g1, g2, fun i x hx => (g3 i x hx).same g1 g2 hs hb⟩
theorem Rq.below (h : Rq S w lo hi A n cap xs) (hb : Below w.heap.size w w') : Rq S w' lo hi A n cap xs :=
  h.same hb.size fun b _ hlt => hb.block b (by have := h.hi_; omega)
theorem Rq.tch (h : Rq S w lo hi A n cap xs) {l r : Nat} (hb : Tch l r w w') (hd : hi ≤ l ∨ r ≤ lo) : Rq S w' lo hi A n cap xs :=
  h.same hb.size fun b h1 h2 => hb.block b (by have := h.hi_; omega) (by omega)
theorem Rq.nil (w : World) (A : Option Addr) (cap lo hi : Nat) (hc : cap ≤ maxLen) (hh : hi ≤ w.heap.size) : Rq S w lo hi A 0 cap [] :=
  ⟨rfl, by omega, hc, hh, fun h => absurd h (by omega)⟩

theorem Oe.len (h : Oe S w lo hi A n cap es) : es.length = n := by
  have h1 := h.row.1
  rw [flat_len] at h1
  exact Nat.eq_of_mul_eq_mul_right S.pos h1
theorem Oe.form (h : Oe S w lo hi A n cap es) : (A = none ∧ n = 0 ∧ cap = 0) ∨ ∃ g cur, A = some ⟨g, 0, none⟩ ∧ lo ≤ g ∧ g < hi ∧ w.heap[g]? = some (.cells cur S.T (0, 0)) ∧ n ≤ cap ∧ cap ≤ maxLen ∧ cur.size = cap * S.s ∧ cur.toList.take (n * S.s) = flat S es := by
  rcases h.row.2 with ⟨e, h0⟩ | ⟨g, c, cur, e, h1, h2, h3, h4, h5, h6⟩
  · injection e with e1 e2 e3
    exact Or.inl ⟨e1, e2, e3⟩
  · injection e with e1 e2 e3
    subst e3
    exact Or.inr ⟨g, cur, e1, h1, h.lt g 0 e1, h2, h3, h4, h5, h6⟩
theorem Oe.at_ (h : Oe S w lo hi A n cap es) {i : Nat} {e : El α} (he : es[i]? = some e) : ∃ g, A = some ⟨g, 0, none⟩ ∧ lo ≤ g ∧ g < hi ∧ w.rangeAt g (i * S.s) (cells S e) := by
  have hi' : i < es.length := (List.getElem?_eq_some_iff.1 he).1
  rw [h.len] at hi'
  rcases h.form with ⟨_, h0, _⟩ | ⟨g, cur, rfl, h1, h2, h3, h4, h5, h6, h7⟩
  · omega
  · refine ⟨g, rfl, h1, h2, fun j v hv => ?_⟩
    have hj : j < S.s := by have := (List.getElem?_eq_some_iff.1 hv).1; rwa [cells_len] at this
    have hlt : i * S.s + j < n * S.s := by
      have := Nat.mul_le_mul_right S.s (show i + 1 ≤ n by omega)
      rw [Nat.add_mul, Nat.one_mul] at this
      omega
    rw [h.row.cellAt (i * S.s + j) hlt]
    exact flat_cell S he hv
theorem Oe.rq (h : Oe S w lo hi A n cap es) : Rq S w lo hi A n cap (es.map (·.x)) := by
  have hl := h.len
  rcases h.form with ⟨rfl, rfl, rfl⟩ | ⟨g, cur, rfl, h1, h2, h3, h4, h5, h6, h7⟩
  · exact ⟨by simpa using hl, Nat.le_refl _, by unfold maxLen; omega, h.hi_, fun h => absurd h (by omega)⟩
  · refine ⟨by simpa using hl, h4, h5, h.hi_, fun _ => ⟨g, 0, rfl, h1, h2, fun i x hx => ?_⟩⟩
    rw [List.getElem?_map] at hx
    cases he : es[i]? with
    | none => rw [he] at hx; cases hx
    | some e =>
      rw [he] at hx
      obtain rfl : e.x = x := by simpa using hx
      obtain ⟨g', e1, _, _, hr⟩ := h.at_ he
      injection e1 with e1; injection e1 with e1 _
      subst e1
      refine ⟨e.A, e.n, e.c, by rw [Nat.zero_add]; exact hr, (h.body e (List.mem_of_getElem? he)).rd⟩
theorem Oe.same (h : Oe S w lo hi A n cap es) (hs : w.heap.size ≤ w'.heap.size) (hb : ∀ b, lo ≤ b → b < hi → w'.heap[b]? = w.heap[b]?) : Oe S w' lo hi A n cap es := by
  refine ⟨⟨h.row.1, ?_⟩, fun e he => (h.body e he).same hs hb, h.ds, by have := h.hi_; omega, h.lt⟩
  rcases h.row.2 with h2 | ⟨g, c, cur, e, g1, g2, g3⟩
  · exact Or.inl h2
  · injection e with e1 e2 e3
    refine Or.inr ⟨g, c, cur, by rw [e1, e3], g1, ?_, g3⟩
    rw [hb g g1 (h.lt g 0 e1)]; exact g2
theorem Oe.below (h : Oe S w lo hi A n cap es) (hb : Below w.heap.size w w') : Oe S w' lo hi A n cap es :=
  h.same hb.size fun b _ hlt => hb.block b (by have := h.hi_; omega)
theorem Oe.up (h : Oe S w lo hi A n cap es) : Oe S w lo w.heap.size A n cap es :=
  ⟨h.row, fun e he => (h.body e he).up, h.ds, Nat.le_refl _, fun g o e => by have := h.lt g o e; have := h.hi_; omega⟩
theorem row_down {v : Value} {lo2 : Nat} {T : TypeId} {s m : Nat} {l : List Value} (h : w.ownsRow lo T s v m l) (hl : lo2 ≤ lo) : w.ownsRow lo2 T s v m l := by
  refine ⟨h.1, ?_⟩
  rcases h.2 with h2 | ⟨g, c, cur, e, g1, g2⟩
  · exact Or.inl h2
  · exact Or.inr ⟨g, c, cur, e, by omega, g2⟩
theorem Oe.down {lo2 : Nat} (h : Oe S w lo hi A n cap es) (hl : lo2 ≤ lo) : Oe S w lo2 hi A n cap es :=
  ⟨row_down h.row hl, fun e he => (h.body e he).down hl, h.ds, h.hi_, h.lt⟩
theorem Oe.nil_ (S : Sh α) (w : World) (lo hi : Nat) (hh : hi ≤ w.heap.size) : Oe S w lo hi none 0 0 [] :=
  ⟨⟨by simp [flat], .inl ⟨rfl, rfl⟩⟩, fun _ h => (by cases h), List.Pairwise.nil, hh, fun _ _ e => by cases e⟩
theorem Oe.empty (S : Sh α) (w : World) : Oe S (w.alloc (.cells #[] S.T)) w.heap.size (w.heap.size + 1) (some ⟨w.heap.size, 0, none⟩) 0 0 [] :=
  ⟨⟨by simp [flat], .inr ⟨w.heap.size, 0, #[], rfl, Nat.le_refl _, heap_alloc_new w _, Nat.le_refl _, by unfold maxLen; omega, by simp, by simp [flat]⟩⟩, fun _ h => (by cases h), List.Pairwise.nil, by simp, fun g o e => by
    injection e with e; injection e with e _; omega⟩
/-- A row of zero elements of which none is told. -/
theorem Oe.made (S : Sh α) (w : World) (z : Array Value) (m : Nat) (hm : m ≤ maxLen) (hz : z.size = m * S.s) : Oe S (w.alloc (.cells z S.T)) w.heap.size (w.heap.size + 1) (some ⟨w.heap.size, 0, none⟩) 0 m [] :=
  ⟨⟨by simp [flat], .inr ⟨w.heap.size, m, z, rfl, Nat.le_refl _, heap_alloc_new w _, Nat.zero_le _, hm, hz, by simp [flat]⟩⟩, fun _ h => (by cases h), List.Pairwise.nil, by simp, fun g o e => by
    injection e with e; injection e with e _; omega⟩
/-- A new element whose slice lies above the others. -/
theorem Ds.push (hd : Ds es) (hb : ∀ e ∈ es, Ow 5 .u8 w lo hi e.A e.n e.c (S.B e.x)) {f : El α} {lo2 hi2 : Nat} {w2 : World} {zs : List Int} (hf : Ow 5 .u8 w2 lo2 hi2 f.A f.n f.c zs) (h : hi ≤ lo2) : Ds (es ++ [f]) := by
  refine List.pairwise_append.2 ⟨hd, List.pairwise_singleton _ _, fun e he f' hf' a b ha hb' => ?_⟩
  obtain rfl : f' = f := by simpa using hf'
  rcases (hb e he).form with ⟨h0, _⟩ | ⟨g, cur, h0, _, h2, _⟩
  · rw [h0] at ha; cases ha
  · rcases hf.form with ⟨k0, _⟩ | ⟨g', cur', k0, k1, _⟩
    · rw [k0] at hb'; cases hb'
    · rw [h0] at ha; rw [k0] at hb'
      obtain rfl := Option.some.inj ha
      obtain rfl := Option.some.inj hb'
      show g ≠ g'
      omega
/-- Elements appended. -/
theorem Oe.app {P : Program} (t ty : TypeId) (i : TypeInfo) (z : Value) (h1 : P.underlying t = some (.slice S.T)) (h2 : P.info? S.T = some i) (h3 : i.zero = some z) (h4 : i.size = S.s) (h5 : i.bytes ≤ 128) (h6 : z.cells.size = S.s)
    (h : Oe S w lo hi A n cap es) (ad : Addr) (m c : Nat) (fs : List (El α)) (hm : fs.length = m) (hsrc : ∀ j u, (flat S fs)[j]? = some u → w.cell? (ad.add j) = some u)
    (hb : ∀ f ∈ fs, ∃ lo2 hi2, lo ≤ lo2 ∧ Ow 5 .u8 w lo2 hi2 f.A f.n f.c (S.B f.x)) (hd : Ds (es ++ fs)) (hn : n + m ≤ 1073741824) (hlo : lo ≤ w.heap.size) :
    ∃ A' cap' w', (Builtin.append_ #[t, t] ty #[.slice A n cap, .slice (some ad) m c]).run P w = .ok (.slice A' (n + m) cap') w' ∧ Oe S w' lo w'.heap.size A' (n + m) cap' (es ++ fs) ∧ Below lo w w' := by
  have hb8 : (n + m) * i.bytes ≤ 140737488355328 := by
    have := Nat.mul_le_mul hn h5
    omega
  obtain ⟨v', w', hrun, g1, g2, _, g3⟩ := run_append_own_at (P := P) w lo t ty S.T i z S.s i.bytes h1 h2 h3 h4 rfl h6 S.pos _ n _ h.row ad m c (flat S fs) (by rw [flat_len, hm]) hsrc (flat_one S fs) (by unfold maxLen; omega) hb8 hlo
  rw [← flat_append] at g1
  have hkeep : ∀ (f : El α) (lo2 hi2 : Nat), Ow 5 .u8 w lo2 hi2 f.A f.n f.c (S.B f.x) → Ow 5 .u8 w' lo2 hi2 f.A f.n f.c (S.B f.x) := by
    intro f lo2 hi2 hf
    rcases hf.form with ⟨e1, e2, e3⟩ | ⟨g, cur, e1, k1, k2, k3, k4⟩
    · have hz : S.B f.x = [] := List.eq_nil_of_length_eq_zero (by rw [hf.len, e2])
      rw [e1, e2, e3, hz]
      exact Ow.nil_ _ _ _ _ _ (by have := hf.hi_; have := g2.size; omega)
    · obtain ⟨⟨q1, q2⟩, q3, q4, q5⟩ := hf
      refine ⟨⟨q1, ?_⟩, q3, by have := g2.size; omega, q5⟩
      rcases q2 with q2 | ⟨g', c', cur', e, r1, r2, r3⟩
      · exact Or.inl q2
      · refine Or.inr ⟨g', c', cur', e, r1, ?_, r3⟩
        rw [g2.block g' (lt_of_block r2) ?_]
        · exact r2
        · intro heq
          rcases h.form with ⟨e0, _⟩ | ⟨gr, curr, e0, _, _, s3, _⟩
          · rw [e0] at heq; simp [Value.ownBlock] at heq
          · rw [e0] at heq
            simp only [Value.ownBlock, Option.some.injEq] at heq
            subst heq
            rw [r2] at s3
            simp only [Option.some.injEq, Obj.cells.injEq] at s3
            exact S.ne s3.2.1.symm
  have hB : Below lo w w' := (Below.refl _ _).grown g2 hlo fun q hq => by
    rcases h.form with ⟨e0, _⟩ | ⟨gr, curr, e0, s1, _⟩
    · rw [e0] at hq; simp [Value.ownBlock] at hq
    · rw [e0] at hq; simp [Value.ownBlock] at hq; omega
  have hv : ∃ A' cap', v' = .slice A' (n + m) cap' ∧ ∀ g o, A' = some ⟨g, o, none⟩ → g < w'.heap.size := by
    rcases g1.2 with ⟨rfl, h0⟩ | ⟨g, c, cur, rfl, _, k2, _⟩
    · exact ⟨none, 0, by rw [h0], fun _ _ e => by cases e⟩
    · exact ⟨_, c, rfl, fun g' o e => by injection e with e; injection e with e _; subst e; exact lt_of_block k2⟩
  obtain ⟨A', cap', rfl, hlt⟩ := hv
  refine ⟨A', cap', w', hrun, ⟨g1, fun e he => ?_, hd, Nat.le_refl _, hlt⟩, hB⟩
  rcases List.mem_append.1 he with he | he
  · exact (hkeep e lo hi (h.body e he)).up
  · obtain ⟨lo2, hi2, hl, ho⟩ := hb e he
    exact ((hkeep e lo2 hi2 ho).up).down hl
end
end Go.Proofs.Ytbkdbdhbmabgcaa.mrw
end

section
namespace Go.Proofs.Ytbkdbdhbmabgcaa.mrw
open Go.RowKit sl harn bx
set_option linter.unusedVariables false

/-- Cells written one behind the other. -/
def lay (cur : Array Value) : Nat → List Value → Array Value
  | _, [] => cur
  | o, v :: r => lay (cur.setIfInBounds o v) (o + 1) r
theorem lay_size : ∀ (vs : List Value) (cur : Array Value) (o : Nat), (lay cur o vs).size = cur.size
  | [], _, _ => rfl
  | v :: r, cur, o => by rw [lay, lay_size r]; simp
theorem lay_list : ∀ (vs : List Value) (cur : Array Value) (o : Nat), o + vs.length ≤ cur.size → (lay cur o vs).toList = cur.toList.take o ++ vs ++ cur.toList.drop (o + vs.length)
  | [], cur, o, h => by simp [lay]
  | v :: r, cur, o, h => by
    have hl : o < cur.toList.length := by simp at h ⊢; omega
    rw [lay, lay_list r _ _ (by simp at h ⊢; omega), Array.toList_setIfInBounds]
    have e1 : (cur.toList.set o v).take (o + 1) = cur.toList.take o ++ [v] := by
      rw [List.take_set, List.take_add_one, List.getElem?_eq_getElem hl]
      have hlt : (cur.toList.take o).length = o := by rw [List.length_take]; omega
      rw [List.set_append_right _ _ (by omega), hlt, Nat.sub_self]
      rfl
    have e2 : (cur.toList.set o v).drop (o + 1 + r.length) = cur.toList.drop (o + (v :: r).length) := by
      rw [List.drop_set, if_pos (by omega), List.length_cons]
      congr 1; omega
    rw [e1, e2]
    simp
theorem size_setCells (b : Nat) : ∀ (vs : List Value) (o : Nat) (w : World), (w.setCells b o vs).heap.size = w.heap.size
  | [], _, _ => rfl
  | v :: r, o, w => by rw [World.setCells, size_setCells b r]; simp [World.setCell]
theorem heap_setCells_ne {b k : Nat} (h : k ≠ b) : ∀ (vs : List Value) (o : Nat) (w : World), (w.setCells b o vs).heap[k]? = w.heap[k]?
  | [], _, _ => rfl
  | v :: r, o, w => by rw [World.setCells, heap_setCells_ne h r, Below.heap_setCell _ _ _ _ h]
theorem heap_setCells_same {b : Nat} {T : TypeId} : ∀ (vs : List Value) (o : Nat) (w : World) (cur : Array Value), w.heap[b]? = some (.cells cur T (0, 0)) → (w.setCells b o vs).heap[b]? = some (.cells (lay cur o vs) T (0, 0))
  | [], _, _, _, h => h
  | v :: r, o, w, cur, h => by
    rw [World.setCells, lay]
    exact heap_setCells_same r (o + 1) _ _ (heap_setCell_same w b o cur T v h)
theorem below_setCells {B b : Nat} {w0 : World} : ∀ (vs : List Value) (o : Nat) (w : World), Below B w0 w → B ≤ b → Below B w0 (w.setCells b o vs)
  | [], _, _, h, _ => h
  | v :: r, o, w, h, hB => by rw [World.setCells]; exact below_setCells r (o + 1) _ (h.setCell (p := ⟨b, o, none⟩) hB v) hB

section
variable {α : Type} {S : Sh α} {w w' : World} {lo hi n cap : Nat} {A : Option Addr} {xs : List α} {es : List (El α)}
theorem row_at {g : Nat} {T : TypeId} {s m : Nat} {l : List Value} (h : w.ownsRow lo T s (.slice (some ⟨g, 0, none⟩) m cap) m l) : ∃ cur, w.heap[g]? = some (.cells cur T (0, 0)) ∧ lo ≤ g ∧ m ≤ cap ∧ cap ≤ maxLen ∧ cur.size = cap * s ∧ cur.toList.take (m * s) = l := by
  rcases h.2 with ⟨e, _⟩ | ⟨g', c, cur, e, h1, h2, h3, h4, h5, h6⟩
  · cases e
  · injection e with e1 e2 e3
    injection e1 with e1; injection e1 with e1 _
    subst e1 e3
    exact ⟨cur, h2, h1, h3, h4, h5, h6⟩
theorem Oe.there {g : Nat} (h : Oe S w lo hi (some ⟨g, 0, none⟩) n cap es) {k : Nat} (hk : k < cap) : w.there g (k * S.s) S.s := by
  obtain ⟨cur, h1, _, _, _, h5, _⟩ := row_at h.row
  intro j hj
  have hlt : k * S.s + j < cur.size := by
    have := Nat.mul_le_mul_right S.s (show k + 1 ≤ cap by omega)
    rw [Nat.add_mul, Nat.one_mul] at this
    omega
  exact ⟨by rw [cell_of_row w g _ cur S.T (0, 0) h1]; simp; omega, frozen_of_row w g _ cur S.T h1⟩
/-- An element stored behind the others, within the capacity. -/
theorem Oe.put {g : Nat} (h : Oe S w lo hi (some ⟨g, 0, none⟩) n cap es) (hk : n < cap) (f : El α) {lo2 hi2 : Nat} (hf : Ow 5 .u8 w lo2 hi2 f.A f.n f.c (S.B f.x)) (hl : hi ≤ lo2) :
    Oe S (w.setCells g (n * S.s) (cells S f)) lo w.heap.size (some ⟨g, 0, none⟩) (n + 1) cap (es ++ [f]) := by
  obtain ⟨cur, h1, h2, h3, h4, h5, h6⟩ := row_at h.row
  have hgl := h.lt g 0 rfl
  have hcap : n * S.s + S.s ≤ cur.size := by
    have := Nat.mul_le_mul_right S.s (show n + 1 ≤ cap by omega)
    rw [Nat.add_mul, Nat.one_mul] at this
    omega
  have hsz := size_setCells g (cells S f) (n * S.s) w
  have kp : ∀ (e : El α) (l r : Nat), Ow 5 .u8 w l r e.A e.n e.c (S.B e.x) → Ow 5 .u8 (w.setCells g (n * S.s) (cells S f)) l r e.A e.n e.c (S.B e.x) := by
    intro e l r he
    obtain ⟨⟨q1, q2⟩, q3, q4, q5⟩ := he
    refine ⟨⟨q1, ?_⟩, q3, by omega, q5⟩
    rcases q2 with q2 | ⟨g', c', cur', e', r1, r2, r3⟩
    · exact Or.inl q2
    · refine Or.inr ⟨g', c', cur', e', r1, ?_, r3⟩
      rw [heap_setCells_ne (fun heq => by
        subst heq
        rw [h1] at r2
        simp only [Option.some.injEq, Obj.cells.injEq] at r2
        exact S.ne r2.2.1)]
      exact r2
  refine ⟨⟨by rw [flat_len, List.length_append, h.len]; rfl, .inr ⟨g, cap, _, rfl, h2, heap_setCells_same _ _ _ _ h1, by omega, h4, by rw [lay_size]; exact h5, ?_⟩⟩, fun e he => ?_, h.ds.push h.body hf hl, by omega, fun g' o e => by injection e with e; injection e with e _; subst e; have := h.hi_; omega⟩
  · rw [lay_list _ _ _ (by rw [cells_len]; exact hcap), cells_len, h6, Nat.add_mul, Nat.one_mul, flat_append]
    have e1 : flat S [f] = cells S f := by simp [flat]
    have hlen : (flat S es ++ cells S f).length = n * S.s + S.s := by rw [List.length_append, flat_len, cells_len, h.len]
    rw [e1, List.take_append_of_le_length (by omega), List.take_of_length_le (by omega)]
  · rw [← hsz]
    rcases List.mem_append.1 he with he | he
    · exact (kp e lo hi (h.body e he)).up
    · obtain rfl : e = f := by simpa using he
      exact (kp e lo2 hi2 hf).up.down (by omega)
/-- Cells behind the elements changed. -/
theorem Oe.tail {g : Nat} (h : Oe S w lo hi (some ⟨g, 0, none⟩) n cap es) {o : Nat} (ho : n * S.s ≤ o) (vs : List Value) (hv : o + vs.length ≤ cap * S.s) : Oe S (w.setCells g o vs) lo hi (some ⟨g, 0, none⟩) n cap es := by
  obtain ⟨cur, h1, h2, h3, h4, h5, h6⟩ := row_at h.row
  have hsz := size_setCells g vs o w
  refine ⟨⟨h.row.1, .inr ⟨g, cap, _, rfl, h2, heap_setCells_same _ _ _ _ h1, h3, h4, by rw [lay_size]; exact h5, ?_⟩⟩, fun e he => ?_, h.ds, by have := h.hi_; omega, h.lt⟩
  · rw [lay_list _ _ _ (by omega), ← h6, List.append_assoc, List.take_append_of_le_length (by rw [List.length_take]; simp; omega), List.take_take, Nat.min_eq_left ho]
  · obtain ⟨⟨q1, q2⟩, q3, q4, q5⟩ := h.body e he
    refine ⟨⟨q1, ?_⟩, q3, by omega, q5⟩
    rcases q2 with q2 | ⟨g', c', cur', e', r1, r2, r3⟩
    · exact Or.inl q2
    · refine Or.inr ⟨g', c', cur', e', r1, ?_, r3⟩
      rw [heap_setCells_ne (fun heq => by
        subst heq
        rw [h1] at r2
        simp only [Option.some.injEq, Obj.cells.injEq] at r2
        exact S.ne r2.2.1)]
      exact r2
theorem set_pairwise {es : List (El α)} (h : Ds es) {i : Nat} {e f : El α} (he : es[i]? = some e) (hA : f.A = e.A) : Ds (es.set i f) := by
  have hi : i < es.length := (List.getElem?_eq_some_iff.1 he).1
  have hv : es[i] = e := (List.getElem?_eq_some_iff.1 he).2
  unfold Ds at h ⊢
  rw [List.pairwise_iff_getElem] at h ⊢
  intro a b ha hb hab
  have ha' : a < es.length := by simpa using ha
  have hb' : b < es.length := by simpa using hb
  have h0 := h a b ha' hb' hab
  have hAa : (es.set i f)[a].A = es[a].A := by
    rw [List.getElem_set]
    split
    · rename_i heq; subst heq; rw [hA, ← hv]
    · rfl
  have hAb : (es.set i f)[b].A = es[b].A := by
    rw [List.getElem_set]
    split
    · rename_i heq; subst heq; rw [hA, ← hv]
    · rfl
  rw [hAa, hAb]
  exact h0
theorem flat_set {es : List (El α)} {i : Nat} {e f : El α} (he : es[i]? = some e) {j : Nat} {v : Value} (hj : j < S.s) (hC : cells S f = (cells S e).set j v) : flat S (es.set i f) = (flat S es).set (i * S.s + j) v := by
  have hi : i < es.length := (List.getElem?_eq_some_iff.1 he).1
  have hv : es[i] = e := (List.getElem?_eq_some_iff.1 he).2
  have e0 : es = es.take i ++ e :: es.drop (i + 1) := by rw [← hv, ← List.drop_eq_getElem_cons hi, List.take_append_drop]
  have hlt : (es.take i).length = i := by rw [List.length_take]; omega
  have e1 : es.set i f = es.take i ++ f :: es.drop (i + 1) := by
    conv => lhs; rw [e0]
    rw [List.set_append_right _ _ (by omega), hlt, Nat.sub_self]
    rfl
  have c1 : ∀ (x : El α) (r : List (El α)), flat S (x :: r) = cells S x ++ flat S r := fun _ _ => rfl
  rw [e1, flat_append, c1, hC]
  conv => rhs; rw [e0, flat_append, c1]
  rw [List.set_append_right _ _ (by rw [flat_len, hlt]; omega), flat_len, hlt, Nat.add_sub_cancel_left, List.set_append_left _ _ (by rw [cells_len]; exact hj)]
/-- One cell of an element changed. -/
theorem Oe.cell {g : Nat} (h : Oe S w lo hi (some ⟨g, 0, none⟩) n cap es) {i : Nat} {e : El α} (he : es[i]? = some e) (x' : α) {j : Nat} (v : Value) (hj : j < S.s) (hC : S.C x' e.A e.n e.c = (S.C e.x e.A e.n e.c).set j v) (hB : S.B x' = S.B e.x) :
    Oe S (w.setCell ⟨g, i * S.s + j, none⟩ v) lo hi (some ⟨g, 0, none⟩) n cap (es.set i ⟨x', e.A, e.n, e.c⟩) := by
  have hs := (h.row.stored (i * S.s + j) v).1
  rw [← flat_set (S := S) (f := ⟨x', e.A, e.n, e.c⟩) he hj hC] at hs
  obtain ⟨cur, h1, h2, h3, h4, h5, h6⟩ := row_at h.row
  refine ⟨hs, fun f hf => ?_, set_pairwise h.ds he rfl, by have := h.hi_; simpa [World.setCell] using this, h.lt⟩
  have hfo : Ow 5 .u8 w lo hi f.A f.n f.c (S.B f.x) := by
    rcases List.mem_or_eq_of_mem_set hf with hf | hf
    · exact h.body f hf
    · subst hf
      show Ow 5 .u8 w lo hi e.A e.n e.c (S.B x')
      rw [hB]; exact h.body e (List.mem_of_getElem? he)
  obtain ⟨⟨q1, q2⟩, q3, q4, q5⟩ := hfo
  refine ⟨⟨q1, ?_⟩, q3, by simpa [World.setCell] using q4, q5⟩
  rcases q2 with q2 | ⟨g', c', cur', e', r1, r2, r3⟩
  · exact Or.inl q2
  · refine Or.inr ⟨g', c', cur', e', r1, ?_, r3⟩
    rw [Below.heap_setCell _ _ _ _ (show g' ≠ g from fun heq => by
      subst heq
      rw [h1] at r2
      simp only [Option.some.injEq, Obj.cells.injEq] at r2
      exact S.ne r2.2.1)]
    exact r2
/-- The slice of an element, narrowed to its own block; changed there. -/
theorem Oe.part (h : Oe S w lo hi A n cap es) {i : Nat} {e : El α} (he : es[i]? = some e) : ∃ l r, lo ≤ l ∧ r ≤ hi ∧ Ow 5 .u8 w l r e.A e.n e.c (S.B e.x) ∧
    ∀ (w' : World) (zs : List Int) (x' : α), Tch l r w w' → Ow 5 .u8 w' l r e.A e.n e.c zs → S.B x' = zs → S.C x' e.A e.n e.c = S.C e.x e.A e.n e.c → Oe S w' lo hi A n cap (es.set i ⟨x', e.A, e.n, e.c⟩) ∧ Tch lo hi w w' := by
  have hin : i < es.length := (List.getElem?_eq_some_iff.1 he).1
  obtain ⟨g, rfl, hg1, hg2, _⟩ := h.at_ he
  obtain ⟨cur, h1, h2, h3, h4, h5, h6⟩ := row_at h.row
  have hmem := List.mem_of_getElem? he
  have ho := h.body e hmem
  have fin : ∀ l r, lo ≤ l → r ≤ hi → (∀ q, l ≤ q → q < r → ∃ a, e.A = some a ∧ a.block = q) → Ow 5 .u8 w l r e.A e.n e.c (S.B e.x) →
      ∀ (w' : World) (zs : List Int) (x' : α), Tch l r w w' → Ow 5 .u8 w' l r e.A e.n e.c zs → S.B x' = zs → S.C x' e.A e.n e.c = S.C e.x e.A e.n e.c → Oe S w' lo hi (some ⟨g, 0, none⟩) n cap (es.set i ⟨x', e.A, e.n, e.c⟩) ∧ Tch lo hi w w' := by
    intro l r hl hr hq hnar w' zs x' ht hw hB hC
    have hgq : g < l ∨ r ≤ g := by
      rcases Nat.lt_or_ge g l with hlt | hge
      · exact Or.inl hlt
      · rcases Nat.lt_or_ge g r with hlt2 | hge2
        · exfalso
          obtain ⟨a, ha, hb⟩ := hq g hge hlt2
          rcases hnar.form with ⟨k0, _⟩ | ⟨g', cur', k0, _, _, k3, _⟩
          · rw [k0] at ha; cases ha
          · rw [k0] at ha
            obtain rfl := Option.some.inj ha
            have hb' : g' = g := hb
            subst hb'
            rw [h1] at k3
            simp only [Option.some.injEq, Obj.cells.injEq] at k3
            exact S.ne k3.2.1
        · exact Or.inr hge2
    have hfl : flat S (es.set i ⟨x', e.A, e.n, e.c⟩) = flat S es := by
      have e1 : cells S ⟨x', e.A, e.n, e.c⟩ = (cells S e).set 0 ((cells S e)[0]'(by rw [cells_len]; exact S.pos)) := by
        rw [List.set_getElem_self]; exact hC
      rw [flat_set (S := S) he S.pos e1]
      have := flat_cell S he (List.getElem?_eq_getElem (show 0 < (cells S e).length by rw [cells_len]; exact S.pos))
      apply List.ext_getElem?
      intro q
      rw [List.getElem?_set]
      split
      · rename_i heq
        subst heq
        split
        · exact this.symm
        · rename_i hge; rw [List.getElem?_eq_none (by omega)]
      · rfl
    have hrow : w'.ownsRow lo S.T S.s (.slice (some ⟨g, 0, none⟩) n cap) n (flat S (es.set i ⟨x', e.A, e.n, e.c⟩)) := by
      rw [hfl]
      refine ⟨h.row.1, .inr ⟨g, cap, cur, rfl, h2, ?_, h3, h4, h5, h6⟩⟩
      rw [ht.block g (by have := h.hi_; omega) (by omega)]; exact h1
    refine ⟨⟨hrow, fun f hf => ?_, set_pairwise h.ds he rfl, by have := h.hi_; have := ht.size; omega, h.lt⟩, ⟨ht.os, ht.tape, ht.output, ht.size, fun q hq1 hq2 => ht.block q hq1 (by omega)⟩⟩
    obtain ⟨a, ha, hfa⟩ := List.getElem_of_mem hf
    have ha' : a < es.length := by simpa using ha
    rw [List.getElem_set] at hfa
    split at hfa
    · subst hfa
      show Ow 5 .u8 w' lo hi e.A e.n e.c (S.B x')
      rw [hB]
      obtain ⟨q1, q2, q3, q4⟩ := hw
      refine ⟨row_down q1 hl, q2, by have := h.hi_; have := ht.size; omega, fun g' o e' => by have := q4 g' o e'; omega⟩
    · rename_i hne
      subst hfa
      have hfo := h.body es[a] (List.getElem_mem ha')
      obtain ⟨⟨q1, q2⟩, q3, q4, q5⟩ := hfo
      refine ⟨⟨q1, ?_⟩, q3, by have := ht.size; omega, q5⟩
      rcases q2 with q2 | ⟨g', c', cur', e', r1, r2, r3⟩
      · exact Or.inl q2
      · refine Or.inr ⟨g', c', cur', e', r1, ?_, r3⟩
        injection e' with e1' e2' e3'
        rw [ht.block g' (lt_of_block r2) ?_]
        · exact r2
        · rcases Nat.lt_or_ge g' l with hlt | hge
          · exact Or.inl hlt
          · rcases Nat.lt_or_ge g' r with hlt2 | hge2
            · exfalso
              obtain ⟨a0, ha0, hb0⟩ := hq g' hge hlt2
              have hd := h.ds
              unfold Ds at hd
              rw [List.pairwise_iff_getElem] at hd
              have hie : es[i] = e := (List.getElem?_eq_some_iff.1 he).2
              rcases Nat.lt_or_gt_of_ne hne with hlt3 | hgt3
              · have := hd i a hin ha' hlt3
                rw [hie] at this
                exact this a0 ⟨g', 0, none⟩ ha0 e1' hb0
              · have := hd a i ha' hin hgt3
                rw [hie] at this
                exact this ⟨g', 0, none⟩ a0 e1' ha0 hb0.symm
            · exact Or.inr hge2
  rcases ho.form with ⟨k0, k1, k2⟩ | ⟨q, cq, k0, k1, k2, k3, _⟩
  · have hz : S.B e.x = [] := List.eq_nil_of_length_eq_zero (by rw [ho.len, k1])
    have hnar : Ow 5 .u8 w hi hi e.A e.n e.c (S.B e.x) := by rw [k0, k1, k2, hz]; exact Ow.nil_ _ _ _ _ _ h.hi_
    exact ⟨hi, hi, by omega, Nat.le_refl _, hnar, fin hi hi (by omega) (Nat.le_refl _) (fun q h1 h2 => by omega) hnar⟩
  · have hnar : Ow 5 .u8 w q (q + 1) e.A e.n e.c (S.B e.x) := by
      obtain ⟨⟨p1, p2⟩, p3, p4, p5⟩ := ho
      refine ⟨⟨p1, ?_⟩, p3, by have := h.hi_; omega, fun g' o e' => by rw [k0] at e'; injection e' with e'; injection e' with e' _; omega⟩
      rcases p2 with p2 | ⟨g', c', cur', e', r1, r2, r3⟩
      · exact Or.inl p2
      · injection e' with e1' e2' e3'
        rw [k0] at e1'; injection e1' with e1'; injection e1' with e1' _
        subst e1'
        exact Or.inr ⟨q, c', cur', by rw [k0, e3'], Nat.le_refl _, r2, r3⟩
    exact ⟨q, q + 1, k1, by omega, hnar, fin q (q + 1) k1 (by omega) (fun q' h1 h2 => ⟨_, k0, by show q = q'; omega⟩) hnar⟩
end
/-- Cells stored at a place, as the walk meets it. -/
theorem list_storeAt {P : Program} {ops : Array Oper} {rest : List Oper} {dst : Option Tmp} {tp : TypeId} {ps : String} {af : Array Edge} {a : Act} {w : World} {Q : Exit → Act → World → Prop} {ty : TypeId} {x y : Operand}
    (b o : Nat) (cs : Array Value) (ht : w.there b o cs.size) (hi : (P.info? ty).map (·.size) = some cs.size) (h1 : cs.all (·.oneCell') = true) (hx : a.eval x = .pointer (some ⟨b, o, none⟩)) (hy : a.eval y = .agg cs)
    (h : wpList P ops Q rest (a.put dst undef) (w.setCells b o cs.toList)) : wpList P ops Q ({ dst := dst, op := .store ty x y, type := tp, pos := ps, after := af, guard := none } :: rest) a w :=
  wpList_store_mid rfl ty x y rfl b o cs hx hy ht hi h1 h
end Go.Proofs.Ytbkdbdhbmabgcaa.mrw
end

section
namespace Go.Proofs.Ytbkdbdhbmabgcaa.mrw
open Go.RowKit sl harn bx
set_option linter.unusedVariables false

theorem grown_bx {T : TypeId} {w w' : World} {b : Nat} {cs : Array Value} {r : Option Nat} (h : Bx T w b cs) (hg : w.grownBy w' r) (hne : some b ≠ r) : Bx T w' b cs := h.same (hg.block b h.lt hne)
theorem grown_below {w w' : World} (h : Below w.heap.size w w') (r : Option Nat) : w.grownBy w' r := ⟨h.os, h.tape, h.output, h.size, fun k hk _ => h.block k hk⟩
theorem grown_trans {a b c : World} {r : Option Nat} (h : a.grownBy b r) (g : b.grownBy c r) : a.grownBy c r :=
  ⟨g.os.trans h.os, g.tape.trans h.tape, g.output.trans h.output, Nat.le_trans h.size g.size, fun k hk hd => (g.block k (Nat.lt_of_lt_of_le hk h.size) hd).trans (h.block k hk hd)⟩
theorem below_grown {lo : Nat} {w0 w w' : World} {r : Option Nat} (h : Below lo w0 w) (hg : w.grownBy w' r) (hr : ∀ q, r = some q → lo ≤ q) (hl : lo ≤ w.heap.size) : Below lo w0 w' :=
  h.grown hg hl hr
abbrev blkOf (A : Option Addr) : Option Nat := A.map (·.block)
section
variable {α : Type} {S : Sh α} {w w' : World} {lo hi n cap : Nat} {A : Option Addr} {xs : List α} {es : List (El α)}
theorem Oe.lo_ (h : Oe S w lo hi A n cap es) {q : Nat} (hq : blkOf A = some q) : lo ≤ q ∧ q < hi := by
  rcases h.form with ⟨e0, _⟩ | ⟨g, cur, e0, h1, h2, _⟩
  · rw [e0] at hq; cases hq
  · rw [e0] at hq
    obtain rfl : g = q := by simpa using hq
    exact ⟨h1, h2⟩
/-- A slice of bytes of the call's own beside a row that changes. -/
theorem ow_grown (h : Oe S w lo hi A n cap es) (hg : w.grownBy w' (blkOf A)) {lo2 hi2 m c : Nat} {B : Option Addr} {zs : List Int} (ho : Ow 5 .u8 w lo2 hi2 B m c zs) : Ow 5 .u8 w' lo2 hi2 B m c zs := by
  obtain ⟨⟨q1, q2⟩, q3, q4, q5⟩ := ho
  refine ⟨⟨q1, ?_⟩, q3, by have := hg.size; omega, q5⟩
  rcases q2 with q2 | ⟨g', c', cur', e, r1, r2, r3⟩
  · exact Or.inl q2
  · refine Or.inr ⟨g', c', cur', e, r1, ?_, r3⟩
    rw [hg.block g' (lt_of_block r2) ?_]
    · exact r2
    · intro heq
      rcases h.form with ⟨e0, _⟩ | ⟨gr, curr, e0, _, _, s3, _⟩
      · rw [e0] at heq; cases heq
      · rw [e0] at heq
        obtain rfl : g' = gr := by simpa using heq
        rw [r2] at s3
        simp only [Option.some.injEq, Obj.cells.injEq] at s3
        exact S.ne s3.2.1.symm
/-- Elements appended: the new slice; the old one stays; only its block may change. -/
theorem Oe.more {P : Program} (t ty : TypeId) (i : TypeInfo) (z : Value) (h1 : P.underlying t = some (.slice S.T)) (h2 : P.info? S.T = some i) (h3 : i.zero = some z) (h4 : i.size = S.s) (h5 : i.bytes ≤ 128) (h6 : z.cells.size = S.s)
    (h : Oe S w lo hi A n cap es) (ad : Addr) (m c : Nat) (fs : List (El α)) (hm : fs.length = m) (hsrc : ∀ j u, (flat S fs)[j]? = some u → w.cell? (ad.add j) = some u)
    (hb : ∀ f ∈ fs, ∃ lo2 hi2, lo ≤ lo2 ∧ Ow 5 .u8 w lo2 hi2 f.A f.n f.c (S.B f.x)) (hd : Ds (es ++ fs)) (hn : n + m ≤ 1073741824) (hlo : lo ≤ w.heap.size) :
    ∃ A' cap' w', (Builtin.append_ #[t, t] ty #[.slice A n cap, .slice (some ad) m c]).run P w = .ok (.slice A' (n + m) cap') w' ∧ Oe S w' lo w'.heap.size A' (n + m) cap' (es ++ fs) ∧ w.grownBy w' (blkOf A) ∧ Oe S w' lo hi A n cap es ∧ (blkOf A' = blkOf A ∨ ∀ q, blkOf A' = some q → w.heap.size ≤ q) := by
  have hb8 : (n + m) * i.bytes ≤ 140737488355328 := by
    have := Nat.mul_le_mul hn h5
    omega
  have fin : ∀ (A' : Option Addr) (cap' : Nat) (w' : World), w'.ownsRow lo S.T S.s (.slice A' (n + m) cap') (n + m) (flat S (es ++ fs)) → w.grownBy w' (blkOf A) → Oe S w' lo w'.heap.size A' (n + m) cap' (es ++ fs) := by
    intro A' cap' w' hrow hg
    refine ⟨hrow, fun e he => ?_, hd, Nat.le_refl _, fun g o e => ?_⟩
    · rcases List.mem_append.1 he with he | he
      · exact (ow_grown h hg (h.body e he)).up
      · obtain ⟨lo2, hi2, hl, ho⟩ := hb e he
        exact ((ow_grown h hg ho).up).down hl
    · rcases hrow.2 with ⟨e0, _⟩ | ⟨g', c', cur', e0, _, k2, _⟩
      · injection e0 with e0; rw [e0] at e; cases e
      · injection e0 with e0
        rw [e0] at e; injection e with e; injection e with e _; subst e
        exact lt_of_block k2
  have hlen : (flat S es ++ flat S fs).length = (n + m) * S.s := by rw [List.length_append, h.row.1, flat_len, hm, Nat.add_mul]
  have grown : ∀ (old : Nat), old < n + m →
      (w.drew.alloc (.cells ((flat S es).toArray ++ (flat S fs).toArray ++ Builtin.zeroCells z.cells (grownCap w (n + m) old S.T - (n + m))) S.T)).ownsRow lo S.T S.s
        (.slice (some ⟨w.heap.size, 0, none⟩) (n + m) (grownCap w (n + m) old S.T)) (n + m) (flat S (es ++ fs)) ∧
      Below w.heap.size w (w.drew.alloc (.cells ((flat S es).toArray ++ (flat S fs).toArray ++ Builtin.zeroCells z.cells (grownCap w (n + m) old S.T - (n + m))) S.T)) := by
    intro old ho
    have hge := grownCap_ge w (n + m) old S.T
    have hcm : grownCap w (n + m) old S.T ≤ maxLen := grownCap_le_maxLen w (n + m) old S.T (by unfold maxLen; omega)
    refine ⟨⟨by rw [flat_append]; exact hlen, .inr ⟨w.heap.size, _, _, rfl, hlo, heap_alloc_new w.drew _, hge, hcm, ?_, ?_⟩⟩, ⟨rfl, rfl, rfl, by simp, fun k hk => heap_alloc_old w.drew _ hk⟩⟩
    · simp only [Array.size_append, List.size_toArray, size_zeroCells, h6, h.row.1, flat_len, hm, ← Nat.add_mul]
      congr 1
      omega
    · simp only [Array.toList_append, List.append_assoc]
      rw [← List.append_assoc, ← hlen, flat_append]
      exact List.take_left
  rcases h.form with ⟨rfl, rfl, rfl⟩ | ⟨g, cur, rfl, hg1, hg2, hcur, hnc, hcm, hcs, htake⟩
  · have he : es = [] := List.eq_nil_of_length_eq_zero h.len
    subst he
    by_cases hm0 : m = 0
    · subst hm0
      have hf : fs = [] := List.eq_nil_of_length_eq_zero hm
      subst hf
      refine ⟨none, 0, w, ?_, (Oe.nil_ S w lo _ (Nat.le_refl _)), ⟨rfl, rfl, rfl, Nat.le_refl _, fun _ _ _ => rfl⟩, h, Or.inl rfl⟩
      simp [Builtin.append_, run_underlying h1, sizeOf, typeInfo, h2, Builtin.lenOf, Builtin.firstCells, loadCells, loadCellsFrom]
    · have hr := run_append_nil (P := P) w t ty S.T i z h1 h2 h3 ad m c (flat S fs) (by rw [flat_len, hm, h4]) hsrc (by omega) (by omega) (by have hb := hb8; simp only [Nat.zero_add] at hb; omega)
      have hgr := grown 0 (by omega)
      have hf : flat S ([] : List (El α)) = [] := rfl
      simp only [Nat.zero_add, List.nil_append, hf, Array.empty_append] at hgr ⊢
      refine ⟨_, _, _, hr, ?_, grown_below hgr.2 _, h.below hgr.2, Or.inr fun q hq => ?_⟩
      · have := fin (some ⟨w.heap.size, 0, none⟩) _ _ (by simpa using hgr.1) (grown_below hgr.2 _)
        simpa using this
      · have : w.heap.size = q := by simpa using hq
        omega
  · by_cases hroom : n + m ≤ cap
    · obtain ⟨w', hr, g1, g2⟩ := run_append_fits (P := P) w lo t ty S.T i S.s h1 h2 h4 g n cap (flat S es) h.row ad m c (flat S fs) (by rw [flat_len, hm]) hsrc (flat_one S fs) hroom
      rw [← flat_append] at g1
      refine ⟨_, _, w', hr, fin _ _ _ g1 g2, g2, ⟨?_, fun e he => (ow_grown h g2 (h.body e he)), h.ds, by have := h.hi_; have := g2.size; omega, h.lt⟩, Or.inl rfl⟩
      obtain ⟨cur', k1, k2, k3, k4, k5, k6⟩ := row_at g1
      refine ⟨h.row.1, .inr ⟨g, cap, cur', rfl, k2, k1, hnc, hcm, k5, ?_⟩⟩
      have := congrArg (List.take (n * S.s)) k6
      rw [List.take_take, Nat.min_eq_left (Nat.mul_le_mul_right _ (by omega)), flat_append, List.take_append_of_le_length (by rw [h.row.1]; exact Nat.le_refl _)] at this
      exact this.trans (List.take_of_length_le (by rw [h.row.1]; exact Nat.le_refl _))
    · have holds : ∀ j u, (flat S es)[j]? = some u → w.cell? ((⟨g, 0, none⟩ : Addr).add j) = some u := h.row.cells (g := g) rfl
      have hr := run_append_grow (P := P) w t ty S.T i z h1 h2 h3 ⟨g, 0, none⟩ n cap (flat S es) (by rw [h4]; exact h.row.1) holds ad m c (flat S fs) (by rw [flat_len, hm, h4]) hsrc (by omega) (by omega) (growslice_fits (by omega) hb8)
      have hgr := grown cap (by omega)
      refine ⟨_, _, _, hr, fin _ _ _ hgr.1 (grown_below hgr.2 _), grown_below hgr.2 _, h.below hgr.2, Or.inr fun q hq => ?_⟩
      have : w.heap.size = q := by simpa using hq
      omega
/-- The walk's form. -/
theorem list_more {P : Program} (w : World) {ops : Array Oper} {rest : List Oper} {o : Oper} {a : Act} {Q : Exit → Act → World → Prop} (hgd : o.guard = none) (s x : Operand) (t : TypeId)
    (hop : o.op = .call { callee := .builtin .append, args := #[s, x], argTypes := #[t, t] })
    {i : TypeInfo} {z : Value} (h1 : P.underlying t = some (.slice S.T)) (h2 : P.info? S.T = some i) (h3 : i.zero = some z) (h4 : i.size = S.s) (h5 : i.bytes ≤ 128) (h6 : z.cells.size = S.s)
    {lo hi n cap m c : Nat} {A : Option Addr} {ad : Addr} {es fs : List (El α)} (hs : a.eval s = .slice A n cap) (hx : a.eval x = .slice (some ad) m c) (h : Oe S w lo hi A n cap es) (hm : fs.length = m)
    (hsrc : ∀ j u, (flat S fs)[j]? = some u → w.cell? (ad.add j) = some u) (hb : ∀ f ∈ fs, ∃ lo2 hi2, lo ≤ lo2 ∧ Ow 5 .u8 w lo2 hi2 f.A f.n f.c (S.B f.x)) (hd : Ds (es ++ fs)) (hn : n + m ≤ 1073741824) (hlo : lo ≤ w.heap.size)
    (hK : ∀ A' cap' w', Oe S w' lo w'.heap.size A' (n + m) cap' (es ++ fs) → w.grownBy w' (blkOf A) → wpList P ops Q rest (a.put o.dst (.slice A' (n + m) cap')) w') : wpList P ops Q (o :: rest) a w := by
  refine wpList_plain hgd fun K hK' => ?_
  obtain ⟨A', cap', w', hrun, g1, g2, _, _⟩ := h.more (P := P) t o.type i z h1 h2 h3 h4 h5 h6 ad m c fs hm hsrc hb hd hn hlo
  unfold Oper.wp execOp
  simp only [hop, resolve, invoke, builtin, Sem.run_bind, Sem.run_pure, Result.andThen_ok, List.map_toArray, List.map_cons, List.map_nil, hs, hx, hrun]
  exact hK' _ _ (hK A' cap' w' g1 g2)
theorem step_more {P : Program} {ops : Array Oper} {o : Oper} {a : Act} {w : World} {K : Act → World → Prop} {Q : Exit → Act → World → Prop} {X : Prop} (hgd : o.guard = none) (s x : Operand) (t : TypeId)
    (hop : o.op = .call { callee := .builtin .append, args := #[s, x], argTypes := #[t, t] })
    {i : TypeInfo} {z : Value} (h1 : P.underlying t = some (.slice S.T)) (h2 : P.info? S.T = some i) (h3 : i.zero = some z) (h4 : i.size = S.s) (h5 : i.bytes ≤ 128) (h6 : z.cells.size = S.s)
    {lo hi n cap m c : Nat} {A : Option Addr} {ad : Addr} {es fs : List (El α)} (hs : a.eval s = .slice A n cap) (hx : a.eval x = .slice (some ad) m c) (h : Oe S w lo hi A n cap es) (hm : fs.length = m)
    (hsrc : ∀ j u, (flat S fs)[j]? = some u → w.cell? (ad.add j) = some u) (hb : ∀ f ∈ fs, ∃ lo2 hi2, lo ≤ lo2 ∧ Ow 5 .u8 w lo2 hi2 f.A f.n f.c (S.B f.x)) (hd : Ds (es ++ fs)) (hn : n + m ≤ 1073741824) (hlo : lo ≤ w.heap.size)
    (hK : ∀ A' cap' w', Oe S w' lo w'.heap.size A' (n + m) cap' (es ++ fs) → w.grownBy w' (blkOf A) → K (a.put o.dst (.slice A' (n + m) cap')) w') :
    if Region.wanted o (yielded ops a.tmps) = true then Oper.wp P o a w K Q else X := by
  have hw : Region.wanted o (yielded ops a.tmps) = true := by simp [Region.wanted, hgd]
  rw [if_pos hw]
  obtain ⟨A', cap', w', hrun, g1, g2, _, _⟩ := h.more (P := P) t o.type i z h1 h2 h3 h4 h5 h6 ad m c fs hm hsrc hb hd hn hlo
  unfold Oper.wp execOp
  simp only [hop, resolve, invoke, builtin, Sem.run_bind, Sem.run_pure, Result.andThen_ok, List.map_toArray, List.map_cons, List.map_nil, hs, hx, hrun]
  exact hK A' cap' w' g1 g2
/-- A new block that holds one element. -/
theorem one_src (f : El α) (w : World) : ∀ j u, (flat S [f])[j]? = some u → (w.alloc (.cells (cells S f).toArray S.T)).cell? ((⟨w.heap.size, 0, none⟩ : Addr).add j) = some u := by
  intro j u hu
  have e : flat S [f] = cells S f := by simp [flat]
  rw [e] at hu
  have e2 : (⟨w.heap.size, 0, none⟩ : Addr).add j = ⟨w.heap.size, j, none⟩ := by unfold Addr.add; split <;> simp_all
  rw [e2, cell_of_row _ _ _ _ _ _ (heap_alloc_new w _)]
  simpa using hu
/-- One element appended out of a block made for it: what stands in whatever order. -/
theorem Oe.push {P : Program} (t ty : TypeId) (i : TypeInfo) (z : Value) (h1 : P.underlying t = some (.slice S.T)) (h2 : P.info? S.T = some i) (h3 : i.zero = some z) (h4 : i.size = S.s) (h5 : i.bytes ≤ 128) (h6 : z.cells.size = S.s)
    (h : Oe S w lo hi A n cap es) (f : El α) {lo2 hi2 : Nat} (hf : Ow 5 .u8 w lo2 hi2 f.A f.n f.c (S.B f.x)) (hl : hi ≤ lo2) (hll : lo ≤ lo2) (hn : n + 1 ≤ 1073741824) (hlo : lo ≤ w.heap.size) :
    ∃ A' cap' w', (Builtin.append_ #[t, t] ty #[.slice A n cap, .slice (some ⟨w.heap.size, 0, none⟩) 1 1]).run P (w.alloc (.cells (cells S f).toArray S.T)) = .ok (.slice A' (n + 1) cap') w' ∧ Oe S w' lo w'.heap.size A' (n + 1) cap' (es ++ [f]) ∧ w.grownBy w' (blkOf A) := by
  have hb := below_box w (.cells (cells S f).toArray S.T)
  obtain ⟨A', cap', w', hrun, g1, g2, _, _⟩ := (h.below hb).more (P := P) t ty i z h1 h2 h3 h4 h5 h6 ⟨w.heap.size, 0, none⟩ 1 1 [f] rfl (one_src f w) (fun f' hf' => by
    obtain rfl : f' = f := by simpa using hf'
    exact ⟨lo2, hi2, hll, hf.below hb⟩) (h.ds.push h.body hf hl) hn (by simp; omega)
  exact ⟨A', cap', w', hrun, g1, grown_trans (grown_below hb _) g2⟩
theorem list_push {P : Program} (w : World) {ops : Array Oper} {rest : List Oper} {o : Oper} {a : Act} {Q : Exit → Act → World → Prop} (hgd : o.guard = none) (s x : Operand) (t : TypeId)
    (hop : o.op = .call { callee := .builtin .append, args := #[s, x], argTypes := #[t, t] })
    {i : TypeInfo} {z : Value} (h1 : P.underlying t = some (.slice S.T)) (h2 : P.info? S.T = some i) (h3 : i.zero = some z) (h4 : i.size = S.s) (h5 : i.bytes ≤ 128) (h6 : z.cells.size = S.s)
    {lo hi n cap : Nat} {A : Option Addr} {es : List (El α)} (hs : a.eval s = .slice A n cap) (hx : a.eval x = .slice (some ⟨w.heap.size, 0, none⟩) 1 1) (h : Oe S w lo hi A n cap es) (f : El α)
    {lo2 hi2 : Nat} (hf : Ow 5 .u8 w lo2 hi2 f.A f.n f.c (S.B f.x)) (hl : hi ≤ lo2) (hll : lo ≤ lo2) (hn : n + 1 ≤ 1073741824) (hlo : lo ≤ w.heap.size)
    (hK : ∀ A' cap' w', Oe S w' lo w'.heap.size A' (n + 1) cap' (es ++ [f]) → w.grownBy w' (blkOf A) → wpList P ops Q rest (a.put o.dst (.slice A' (n + 1) cap')) w') : wpList P ops Q (o :: rest) a (w.alloc (.cells (cells S f).toArray S.T)) := by
  refine wpList_plain hgd fun K hK' => ?_
  obtain ⟨A', cap', w', hrun, g1, g2⟩ := h.push (P := P) t o.type i z h1 h2 h3 h4 h5 h6 f hf hl hll hn hlo
  unfold Oper.wp execOp
  simp only [hop, resolve, invoke, builtin, Sem.run_bind, Sem.run_pure, Result.andThen_ok, List.map_toArray, List.map_cons, List.map_nil, hs, hx, hrun]
  exact hK' _ _ (hK A' cap' w' g1 g2)
theorem rq_grown {β : Type} {S2 : Sh β} {ys : List β} {lo2 hi2 m c : Nat} {B : Option Addr} (h : Rq S2 w lo2 hi2 B m c ys) (o : Oe S w lo hi A n cap es) (hg : w.grownBy w' (blkOf A)) (hd : hi2 ≤ lo) : Rq S2 w' lo2 hi2 B m c ys :=
  h.same hg.size fun b _ hlt => hg.block b (by have := h.hi_; omega) (fun e => by have := (o.lo_ e.symm).1; omega)
theorem rd_grown {k : IntKind} {zs : List Int} {lo2 hi2 m c : Nat} {B : Option Addr} (o : Oe S w lo hi A n cap es) (hg : w.grownBy w' (blkOf A)) (h : Rd k w lo2 hi2 B m c zs) (hd : hi2 ≤ lo) : Rd k w' lo2 hi2 B m c zs :=
  h.same hg.size fun b _ hlt => hg.block b (by have := h.hi_; omega) (fun e => by have := (o.lo_ e.symm).1; omega)
theorem oe_grown {β : Type} {S2 : Sh β} {fs : List (El β)} {lo2 hi2 m c : Nat} {B : Option Addr} (h : Oe S2 w lo2 hi2 B m c fs) (o : Oe S w lo hi A n cap es) (hg : w.grownBy w' (blkOf A)) (hd : hi2 ≤ lo ∨ hi ≤ lo2) : Oe S2 w' lo2 hi2 B m c fs :=
  h.same hg.size fun b h1 hlt => hg.block b (by have := h.hi_; omega) (fun e => by have := o.lo_ e.symm; omega)
end
end Go.Proofs.Ytbkdbdhbmabgcaa.mrw
end

section
namespace Go.Proofs.Ytbkdbdhbmabgcaa.rgp
open Go Go.RowKit sl harn bx mrw
set_option linter.unusedVariables false

/-- An append onto the row: the old slice stays, only its block may change. -/
def Ap {α : Type} (S : Sh α) (lo hi : Nat) (A : Option Addr) (n cap : Nat) (es : List (El α)) (w w' : World) : Prop := Oe S w lo hi A n cap es ∧ w.grownBy w' (blkOf A) ∧ Oe S w' lo hi A n cap es
/-- Operation number k changes the world as E2 says, the others as E1 says. -/
def EA (k : Nat) (E1 E2 : World → World → Prop) (i : Nat) (w w' : World) : Prop := (i ≠ k ∧ E1 w w') ∨ (i = k ∧ E2 w w')
/-- What is right of a value and stays so under both. -/
def St (E1 E2 : World → World → Prop) : Type := { p : Value → World → Prop // ∀ v w w', p v w → (E1 w w' ∨ E2 w w') → p v w' }
def is {E1 E2 : World → World → Prop} (x : Value) : St E1 E2 := ⟨fun v _ => v = x, fun _ _ _ h _ => h⟩
def val {E1 E2 : World → World → Prop} (p : Value → Prop) : St E1 E2 := ⟨fun v _ => p v, fun _ _ _ h _ => h⟩
def RA {E1 E2 : World → World → Prop} (k : Nat) (l : List (St E1 E2)) (q : Value → World → Prop) (i : Nat) (v : Value) (w : World) : Prop := (i ≠ k → (l.getD i (val fun _ => True)).1 v w) ∧ (i = k → q v w)
section
variable {E1 E2 : World → World → Prop} {k i : Nat} {l : List (St E1 E2)} {q : Value → World → Prop} {v : Value} {w w' : World}
theorem ea1 (h : (i == k) = false) (hb : E1 w w') : EA k E1 E2 i w w' := Or.inl ⟨by simpa using h, hb⟩
theorem ea2 (hb : E2 w w') : EA k E1 E2 k w w' := Or.inr ⟨rfl, hb⟩
theorem ea_cases {p : Prop} (h : EA k E1 E2 i w w') (h1 : E1 w w' → p) (h2 : E2 w w' → p) : p := by
  rcases h with ⟨_, h⟩ | ⟨_, h⟩
  · exact h1 h
  · exact h2 h
theorem ra1 (h : (i == k) = false) (hp : (l.getD i (val fun _ => True)).1 v w) : RA k l q i v w := ⟨fun _ => hp, fun e => by rw [e] at h; simp at h⟩
theorem ra1_out (h : (i == k) = false) (hp : RA k l q i v w) : (l.getD i (val fun _ => True)).1 v w := hp.1 (by simpa using h)
theorem ra2 (hp : q v w) : RA k l q k v w := ⟨fun h => absurd rfl h, fun _ => hp⟩
theorem ra2_out (hp : RA k l q k v w) : q v w := hp.2 rfl
theorem ra_keep (hq : ∀ v w w', q v w → E1 w w' → q v w') : ∀ i j v w w', i ≠ j → RA k l q j v w → EA k E1 E2 i w w' → RA k l q j v w' := by
  intro i j v w w' hij hr he
  refine ⟨fun hj => (l.getD j _).2 v w w' (hr.1 hj) ?_, fun hj => ?_⟩
  · rcases he with ⟨_, he⟩ | ⟨_, he⟩
    · exact Or.inl he
    · exact Or.inr he
  · rcases he with ⟨_, he⟩ | ⟨hi, _⟩
    · exact hq v w w' (hr.2 hj) he
    · exact absurd (hi.trans hj.symm) hij
end
section
variable {P : Program} {Q : Exit → Act → World → Prop} {a0 : Act}
/-- The rule: each operation with a relation of its own, a chain at the end. -/
theorem region_tailE {id : Nat} {l : List Oper} {w : World} (E : Nat → World → World → Prop) (s N : Nat) (nd : List (Option (List (Nat × Tmp)))) (hd : List (Nat × Tmp)) (C : World → Prop) (R : Nat → Value → World → Prop) (hm : P.follows .mixedOrders = true) (hs : decide (s < l.length) = true) (hB : reg.okB l.toArray s N [] nd = true)
    (hT : Region.seqB .any l.toArray (l.length - s) s (reg.upTo l.length s) = true) (hN : a0.tmps.size = N) (hC : ∀ i w w', C w → E i w w' → C w') (hR : ∀ i j v w w', i ≠ j → R j v w → E i w w' → R j v w') (h0 : C w.drew) (hH : reg.heads l.toArray s = hd) (hA : reg.All E [] P l.toArray R C a0 0 l nd)
    (hF : ∀ w, C w → reg.Obs l.toArray R w (fun c => wpList P l.toArray Q (l.drop s) c w) hd a0) : (Code.region id l.toArray true).wp P Q a0 w :=
  wp_region_any hm (by
    subst hH
    exact reg.any_tail (Q := Q) (E := E) (rf := []) (of_decide_eq_true hs) (reg.ok_of hB) hT hN hC hR hA hF _ _ a0 w.drew (by simp) (reg.inv_start h0))
end
/-- A block of another type is not the row's own. -/
theorem ne_type {α : Type} {S : Sh α} {w : World} {lo hi n cap : Nat} {A : Option Addr} {es : List (El α)} {T : TypeId} {b : Nat} {cs : Array Value} (h : Bx T w b cs) (o : Oe S w lo hi A n cap es) (hT : T ≠ S.T) : some b ≠ blkOf A := by
  intro e
  rcases o.form with ⟨e0, _⟩ | ⟨g, cur, e0, _, _, h3, _⟩
  · rw [e0] at e; cases e
  · rw [e0] at e
    obtain rfl : b = g := by simpa using e
    unfold Bx at h
    rw [h] at h3
    simp only [Option.some.injEq, Obj.cells.injEq] at h3
    exact hT h3.2.1
/-- A row and its slices stay when a block of another type changes. -/
theorem oe_set {α : Type} {S : Sh α} {w : World} {lo hi n cap : Nat} {A : Option Addr} {es : List (El α)} {T : TypeId} {b : Nat} {cs : Array Value} (o : Oe S w lo hi A n cap es) (h : Bx T w b cs) (hT : T ≠ S.T) (h8 : T ≠ 5) {w' : World} (hs : w.heap.size ≤ w'.heap.size) (hw : ∀ k, k ≠ b → w'.heap[k]? = w.heap[k]?) : Oe S w' lo hi A n cap es := by
  have ow : ∀ {lo2 hi2 m c : Nat} {B : Option Addr} {zs : List Int}, Ow 5 .u8 w lo2 hi2 B m c zs → Ow 5 .u8 w' lo2 hi2 B m c zs := by
    intro lo2 hi2 m c B zs ho
    obtain ⟨⟨q1, q2⟩, q3, q4, q5⟩ := ho
    refine ⟨⟨q1, ?_⟩, q3, by omega, q5⟩
    rcases q2 with q2 | ⟨g', c', cur', e, r1, r2, r3⟩
    · exact Or.inl q2
    · refine Or.inr ⟨g', c', cur', e, r1, ?_, r3⟩
      rw [hw g' (fun heq => by
        subst heq
        unfold Bx at h
        rw [h] at r2
        simp only [Option.some.injEq, Obj.cells.injEq] at r2
        exact h8 r2.2.1)]
      exact r2
  refine ⟨⟨o.row.1, ?_⟩, fun e he => ow (o.body e he), o.ds, by have := o.hi_; omega, o.lt⟩
  rcases o.row.2 with h2 | ⟨g, c, cur, e, g1, g2, g3⟩
  · exact Or.inl h2
  · refine Or.inr ⟨g, c, cur, e, g1, ?_, g3⟩
    rw [hw g (fun heq => by
      subst heq
      unfold Bx at h
      rw [h] at g2
      simp only [Option.some.injEq, Obj.cells.injEq] at g2
      exact hT g2.2.1)]
    exact g2
theorem oe_setCell {α : Type} {S : Sh α} {w : World} {lo hi n cap : Nat} {A : Option Addr} {es : List (El α)} {T : TypeId} {b : Nat} {cs : Array Value} (o : Oe S w lo hi A n cap es) (h : Bx T w b cs) (hT : T ≠ S.T) (h8 : T ≠ 5) (i : Nat) (v : Value) : Oe S (w.setCell ⟨b, i, none⟩ v) lo hi A n cap es :=
  oe_set o h hT h8 (by simp [World.setCell]) fun k hk => Below.heap_setCell _ _ _ _ hk
/-- An element's value with a slice of the call's own above the row. -/
def elv {α : Type} (S : Sh α) (lo hi : Nat) (A : Option Addr) (n cap : Nat) (es : List (El α)) (x : α) (f : Option Addr → Nat → Nat → Value) : St reg.Bel (Ap S lo hi A n cap es) :=
  ⟨fun v w => ∃ A2 n2 c2 lo2 hi2, v = f A2 n2 c2 ∧ hi ≤ lo2 ∧ lo ≤ lo2 ∧ Ow 5 .u8 w lo2 hi2 A2 n2 c2 (S.B x), fun v w w' ⟨A2, n2, c2, lo2, hi2, e, h1, h2, h⟩ hb => by
    rcases hb with hb | hb
    · exact ⟨A2, n2, c2, lo2, hi2, e, h1, h2, h.below hb⟩
    · exact ⟨A2, n2, c2, lo2, hi2, e, h1, h2, ow_grown hb.1 hb.2.1 h⟩⟩
/-- A new slice of that one element. -/
def onev {α : Type} (S : Sh α) (lo hi : Nat) (A : Option Addr) (n cap : Nat) (es : List (El α)) (x : α) (g : Option Addr → Nat → Nat → Array Value) : St reg.Bel (Ap S lo hi A n cap es) :=
  ⟨fun v w => ∃ q A2 n2 c2 lo2 hi2, v = .slice (some ⟨q, 0, none⟩) 1 1 ∧ hi ≤ q ∧ Bx S.T w q (g A2 n2 c2) ∧ hi ≤ lo2 ∧ lo ≤ lo2 ∧ Ow 5 .u8 w lo2 hi2 A2 n2 c2 (S.B x), fun v w w' ⟨q, A2, n2, c2, lo2, hi2, e, hq, hX, h1, h2, h⟩ hb => by
    rcases hb with hb | hb
    · exact ⟨q, A2, n2, c2, lo2, hi2, e, hq, hX.below hb, h1, h2, h.below hb⟩
    · exact ⟨q, A2, n2, c2, lo2, hi2, e, hq, grown_bx hX hb.2.1 (fun e => by have := hb.1.lo_ e.symm; omega), h1, h2, ow_grown hb.1 hb.2.1 h⟩⟩
/-- The row behind the append. -/
def newv {α : Type} (S : Sh α) (lo n : Nat) (es : List (El α)) (x : α) (v : Value) (w : World) : Prop := ∃ A3 c3 f hi3, v = .slice A3 (n + 1) c3 ∧ f.x = x ∧ Oe S w lo hi3 A3 (n + 1) c3 (es ++ [f])
theorem newv_keep {α : Type} {S : Sh α} {lo n : Nat} {es : List (El α)} {x : α} : ∀ v w w', newv S lo n es x v w → reg.Bel w w' → newv S lo n es x v w' := fun v w w' ⟨A3, c3, f, hi3, e, hf, h⟩ hb => ⟨A3, c3, f, hi3, e, hf, h.below hb⟩
/-- The append itself. -/
theorem wp_push {α : Type} {S : Sh α} {P : Program} {o : Oper} {a : Act} {w : World} {K : Act → World → Prop} {Q : Exit → Act → World → Prop} (s x : Operand) (t : TypeId)
    (hop : o.op = .call { callee := .builtin .append, args := #[s, x], argTypes := #[t, t] })
    {i : TypeInfo} {z : Value} (h1 : P.underlying t = some (.slice S.T)) (h2 : P.info? S.T = some i) (h3 : i.zero = some z) (h4 : i.size = S.s) (h5 : i.bytes ≤ 128) (h6 : z.cells.size = S.s)
    {lo hi n cap q : Nat} {A : Option Addr} {es : List (El α)} (hs : a.eval s = .slice A n cap) (hx : a.eval x = .slice (some ⟨q, 0, none⟩) 1 1) (h : Oe S w lo hi A n cap es) (y : α) {A2 : Option Addr} {n2 c2 : Nat} (hX : Bx S.T w q (S.C y A2 n2 c2).toArray)
    {lo2 hi2 : Nat} (hf : Ow 5 .u8 w lo2 hi2 A2 n2 c2 (S.B y)) (hl : hi ≤ lo2) (hll : lo ≤ lo2) (hn : n + 1 ≤ 1073741824) (hlo : lo ≤ w.heap.size)
    (hK : ∀ A' cap' w', newv S lo n es y (.slice A' (n + 1) cap') w' → Ap S lo hi A n cap es w w' → K (a.put o.dst (.slice A' (n + 1) cap')) w') : Oper.wp P o a w K Q := by
  obtain ⟨A', cap', w', hrun, g1, g2, g3, _⟩ := h.more (P := P) t o.type i z h1 h2 h3 h4 h5 h6 ⟨q, 0, none⟩ 1 1 [⟨y, A2, n2, c2⟩] rfl (fun j u hu => by
    have e : flat S [⟨y, A2, n2, c2⟩] = S.C y A2 n2 c2 := by simp [flat, cells]
    rw [e] at hu
    have e2 : (⟨q, 0, none⟩ : Addr).add j = ⟨q, j, none⟩ := by unfold Addr.add; split <;> simp_all
    rw [e2, hX.cell j]
    simpa using hu) (fun f' hf' => by
    obtain rfl : f' = ⟨y, A2, n2, c2⟩ := by simpa using hf'
    exact ⟨lo2, hi2, hll, hf⟩) (h.ds.push h.body hf hl) hn hlo
  unfold Oper.wp execOp
  simp only [hop, resolve, invoke, builtin, Sem.run_bind, Sem.run_pure, Result.andThen_ok, List.map_toArray, List.map_cons, List.map_nil, hs, hx, hrun]
  exact hK A' cap' w' ⟨A', cap', ⟨y, A2, n2, c2⟩, w'.heap.size, rfl, rfl, g1⟩ ⟨h, g2, g3⟩
end Go.Proofs.Ytbkdbdhbmabgcaa.rgp
end

section
namespace Go.Proofs.Ytbkdbdhbmabgcaa.mrw
open Go.RowKit sl harn bx
set_option linter.unusedVariables false
set_option linter.unusedSectionVars false
set_option linter.unusedSimpArgs false

section
variable {P : Program} (t E : TypeId) (i0 : TypeInfo) (s : Nat) (hu : P.underlying t = some (.slice E)) (hi : P.info? E = some i0) (hs : i0.size = s)
include hu hi hs
theorem sliceS_pre (g n cap j : Nat) (hj : j ≤ cap) (W : World) : (Instr.slice t (.slice (some ⟨g, 0, none⟩) n cap) none (some (.int .i64 j)) none).run P W = .ok (.slice (some ⟨g, 0, none⟩) j cap) W := by
  have hj2 : (j : Int) ≤ cap := by omega
  simp [Instr.slice, run_underlying hu, Instr.sliceBounds, Instr.sliceBound, sizeOf, typeInfo, hi, hs, go_sem]
  intro h; omega
theorem sliceS_post (g n cap j : Nat) (hj : j ≤ n) (hc : n ≤ cap) : ∃ ad : Addr, (j < n → ad = ⟨g, j * s, none⟩) ∧ ∀ W, (Instr.slice t (.slice (some ⟨g, 0, none⟩) n cap) (some (.int .i64 j)) none none).run P W = .ok (.slice (some ad) (n - j) (cap - j)) W := by
  refine ⟨if cap = j then ⟨g, 0, none⟩ else ⟨g, j * s, none⟩, fun h => ?_, fun W => ?_⟩
  · rw [if_neg (by omega)]
  · have hj2 : (j : Int) ≤ n := by omega
    simp [Instr.slice, run_underlying hu, Instr.sliceBounds, Instr.sliceBound, sizeOf, typeInfo, hi, hs, go_sem]
    rw [if_pos hj]
    congr 2
    split
    · rfl
    · rfl
theorem sliceS_mid (g n cap j m : Nat) (hj : j < m) (hm : m ≤ cap) (W : World) : (Instr.slice t (.slice (some ⟨g, 0, none⟩) n cap) (some (.int .i64 j)) (some (.int .i64 m)) none).run P W = .ok (.slice (some ⟨g, j * s, none⟩) (m - j) (cap - j)) W := by
  have hj2 : (j : Int) ≤ m := by omega
  have hj3 : (m : Int) ≤ cap := by omega
  simp [Instr.slice, run_underlying hu, Instr.sliceBounds, Instr.sliceBound, sizeOf, typeInfo, hi, hs, go_sem]
  rw [if_pos hm, if_pos (by omega), if_neg (by omega)]
theorem sliceS_three (g n cap j m c : Nat) (hj : j < m) (hm : m ≤ c) (hc : c ≤ cap) (W : World) : (Instr.slice t (.slice (some ⟨g, 0, none⟩) n cap) (some (.int .i64 j)) (some (.int .i64 m)) (some (.int .i64 c))).run P W = .ok (.slice (some ⟨g, j * s, none⟩) (m - j) (c - j)) W := by
  have hj2 : (j : Int) ≤ m := by omega
  have hj3 : (m : Int) ≤ c := by omega
  have hj4 : (c : Int) ≤ cap := by omega
  simp [Instr.slice, run_underlying hu, Instr.sliceBounds, Instr.sliceBound, sizeOf, typeInfo, hi, hs, go_sem]
  rw [if_pos hc, if_pos hm, if_pos (by omega), if_neg (by omega)]
end
section
variable {P : Program}
theorem at_slice (t E : TypeId) (hu : P.underlying t = some (.slice E)) (x : Value) (lo hi mx : Option Value) (W : World) : (Instr.sliceAt t x lo hi mx).run P W = (Instr.slice t x lo hi mx).run P W := by
  simp [Instr.sliceAt, run_underlying hu]
theorem wp_slice_h {o : Oper} {a : Act} {w : World} {K : Act → World → Prop} {Q : Exit → Act → World → Prop} (t : TypeId) (x y : Operand) (ho : o.op = .slice t x none (some y) none) (v yv r : Value) (hx : a.eval x = v) (hy : a.eval y = yv)
    (hr : ∀ W, (Instr.sliceAt t v none (some yv) none).run P W = .ok r W) (hK : K (a.put o.dst r) w) : Oper.wp P o a w K Q := by
  unfold Oper.wp execOp
  simp only [ho, Option.map_some, Option.map_none, hx, hy, Sem.run_bind, hr, Result.andThen_ok, Sem.run_pure]
  exact hK
theorem wp_slice_l {o : Oper} {a : Act} {w : World} {K : Act → World → Prop} {Q : Exit → Act → World → Prop} (t : TypeId) (x y : Operand) (ho : o.op = .slice t x (some y) none none) (v yv r : Value) (hx : a.eval x = v) (hy : a.eval y = yv)
    (hr : ∀ W, (Instr.sliceAt t v (some yv) none none).run P W = .ok r W) (hK : K (a.put o.dst r) w) : Oper.wp P o a w K Q := by
  unfold Oper.wp execOp
  simp only [ho, Option.map_some, Option.map_none, hx, hy, Sem.run_bind, hr, Result.andThen_ok, Sem.run_pure]
  exact hK
/-- 'clear' of one element within a row. -/
theorem run_clear_at (w : World) (t e ty : TypeId) (zs : Array Value) (ht : P.underlying t = some (.slice e)) (hv : ∀ w, (zeroValue e).run P w = .ok (.agg zs) w) (h1 : zs.all (·.oneCell') = true) (b o c : Nat) (hz : 0 < zs.size) (hth : w.there b o zs.size) :
    (Builtin.clear_ #[t] ty #[.slice (some ⟨b, o, none⟩) 1 c]).run P w = .ok (.tuple #[]) (w.setCells b o zs.toList) := by
  have hzc : (Builtin.zeroCells zs 1).toList = zs.toList := by
    simp [Builtin.zeroCells]
    apply List.ext_getElem
    · simp
    · intro i g1 g2
      simp at g1
      have : i < zs.size := by simpa using g2
      simp [Nat.mod_eq_of_lt this]
      exact getElem!_pos zs i this
  have h2 := run_storeCells_cells (P := P) b o zs.toList 0 w (fun j hj => by simpa using (hth j (by simpa using hj)).1) (fun j hj => by simpa using (hth j (by simpa using hj)).2)
    (fun v hv => (Array.all_eq_true_iff_forall_mem.1 h1) v (by simpa using hv))
  simp only [Nat.add_zero] at h2
  simp [Builtin.clear_, run_underlying ht, hv, Value.cells, hzc, h2]
end
section
variable {α : Type} {S : Sh α} {w w' : World} {lo hi n cap : Nat} {A : Option Addr} {xs : List α} {es : List (El α)}
/-- The first of the elements. -/
theorem Oe.first {g : Nat} (h : Oe S w lo hi (some ⟨g, 0, none⟩) n cap es) {i : Nat} (hi' : i ≤ n) : Oe S w lo hi (some ⟨g, 0, none⟩) i cap (es.take i) := by
  obtain ⟨cur, h1, h2, h3, h4, h5, h6⟩ := row_at h.row
  refine ⟨⟨by rw [flat_len, List.length_take, h.len, Nat.min_eq_left hi'], .inr ⟨g, cap, cur, rfl, h2, h1, by omega, h4, h5, ?_⟩⟩, fun e he => h.body e (List.mem_of_mem_take he), List.Pairwise.sublist (List.take_sublist _ _) h.ds, h.hi_, h.lt⟩
  have := congrArg (List.take (i * S.s)) h6
  rw [List.take_take, Nat.min_eq_left (Nat.mul_le_mul_right _ hi'), flat_take] at this
  exact this
/-- An element removed by moving the others down, within the row. -/
theorem Oe.drop_ {P : Program} {g : Nat} (t ty : TypeId) (i : TypeInfo) (h1 : P.underlying t = some (.slice S.T)) (h2 : P.info? S.T = some i) (h4 : i.size = S.s) (h : Oe S w lo hi (some ⟨g, 0, none⟩) n cap es) {j : Nat} (hj : j < n) (ad : Addr) (had : j + 1 < n → ad = ⟨g, (j + 1) * S.s, none⟩) (c : Nat) :
    ∃ w', (Builtin.append_ #[t, t] ty #[.slice (some ⟨g, 0, none⟩) j cap, .slice (some ad) (n - (j + 1)) c]).run P w = .ok (.slice (some ⟨g, 0, none⟩) (n - 1) cap) w' ∧ Oe S w' lo hi (some ⟨g, 0, none⟩) (n - 1) cap (es.eraseIdx j) ∧ w.grownBy w' (some g) := by
  have hl := h.len
  have ho := h.first (i := j) (by omega)
  obtain ⟨cur, k1, k2, k3, k4, k5, k6⟩ := row_at h.row
  have hfl : (es.drop (j + 1)).length = n - (j + 1) := by rw [List.length_drop, hl]
  have hsrc : ∀ q u, (flat S (es.drop (j + 1)))[q]? = some u → w.cell? (ad.add q) = some u := by
    intro q u hu
    have hq := (List.getElem?_eq_some_iff.1 hu).1
    rw [flat_len, hfl] at hq
    have hlt : j + 1 < n := by
      rcases Nat.lt_or_ge (j + 1) n with h | h
      · exact h
      · rw [show n - (j + 1) = 0 by omega] at hq; omega
    rw [had hlt, Addr.add_mid, ← flat_drop, List.getElem?_drop] at *
    rw [h.row.cellAt _ (by
      have : (n - (j + 1)) * S.s + (j + 1) * S.s = n * S.s := by rw [← Nat.add_mul]; congr 1; omega
      omega)]
    exact hu
  obtain ⟨w', hr, g1, g2⟩ := run_append_fits (P := P) w lo t ty S.T i S.s h1 h2 h4 g j cap _ ho.row ad (n - (j + 1)) c (flat S (es.drop (j + 1))) (by rw [flat_len, hfl]) hsrc (flat_one S _) (by omega)
  rw [← flat_append, ← List.eraseIdx_eq_take_drop_succ] at g1
  have e : j + (n - (j + 1)) = n - 1 := by omega
  rw [e] at hr g1
  have hsub : List.Sublist (es.eraseIdx j) es := List.eraseIdx_sublist _ _
  exact ⟨w', hr, ⟨g1, fun x hx => ow_grown h g2 (h.body x (hsub.subset hx)), List.Pairwise.sublist hsub h.ds, by have := h.hi_; have := g2.size; omega, h.lt⟩, g2⟩
theorem list_drop {P : Program} (w : World) {ops : Array Oper} {rest : List Oper} {o : Oper} {a : Act} {Q : Exit → Act → World → Prop} (hgd : o.guard = none) (s x : Operand) (t : TypeId)
    (hop : o.op = .call { callee := .builtin .append, args := #[s, x], argTypes := #[t, t] }) {i : TypeInfo} (h1 : P.underlying t = some (.slice S.T)) (h2 : P.info? S.T = some i) (h4 : i.size = S.s)
    {g j lo hi n cap c q : Nat} {ad : Addr} {es : List (El α)} (hs : a.eval s = .slice (some ⟨g, 0, none⟩) j cap) (hx : a.eval x = .slice (some ad) q c) (hq : q = n - (j + 1)) (h : Oe S w lo hi (some ⟨g, 0, none⟩) n cap es) (hj : j < n) (had : j + 1 < n → ad = ⟨g, (j + 1) * S.s, none⟩)
    (hK : ∀ w', Oe S w' lo hi (some ⟨g, 0, none⟩) (n - 1) cap (es.eraseIdx j) → w.grownBy w' (some g) → wpList P ops Q rest (a.put o.dst (.slice (some ⟨g, 0, none⟩) (n - 1) cap)) w') : wpList P ops Q (o :: rest) a w := by
  subst hq
  refine wpList_plain hgd fun K hK' => ?_
  obtain ⟨w', hrun, g1, g2⟩ := h.drop_ (P := P) t o.type i h1 h2 h4 hj ad had c
  unfold Oper.wp execOp
  simp only [hop, resolve, invoke, builtin, Sem.run_bind, Sem.run_pure, Result.andThen_ok, List.map_toArray, List.map_cons, List.map_nil, hs, hx, hrun]
  exact hK' _ _ (hK w' g1 g2)
theorem grown_setCells {g o : Nat} (hg : w.grownBy w' (some g)) (vs : List Value) : w.grownBy (w'.setCells g o vs) (some g) := by
  have hb : ∀ (vs : List Value) (o : Nat) (u : World), (u.setCells g o vs).os = u.os ∧ (u.setCells g o vs).tape = u.tape ∧ (u.setCells g o vs).output = u.output := by
    intro vs
    induction vs with
    | nil => intro o u; exact ⟨rfl, rfl, rfl⟩
    | cons v r ih => intro o u; rw [World.setCells]; exact ih _ _
  obtain ⟨e1, e2, e3⟩ := hb vs o w'
  exact ⟨e1.trans hg.os, e2.trans hg.tape, e3.trans hg.output, by rw [size_setCells]; exact hg.size, fun k hk hne => by
    rw [heap_setCells_ne (fun e => hne (by rw [e]))]; exact hg.block k hk hne⟩
end
end Go.Proofs.Ytbkdbdhbmabgcaa.mrw
end

section
namespace Go.Proofs.Ytbkdbdhbmabgcaa.mq
open Go.RowKit sl harn bx mrw
set_option linter.unusedVariables false

/-- To, Category, Deadline, Body. -/
abbrev Msg := Int × Int × Int × List Int
def zm : Msg := (0, 0, 0, [])
/-- The value of a message, of a queue. -/
abbrev mV (x : Msg) (A : Option Addr) (n c : Nat) : Value := .agg #[.int .i64 x.1, .int .i64 x.2.1, .int .i64 x.2.2.1, .slice A n c]
abbrev qV (A : Option Addr) (n c : Nat) (d : Int) : Value := .agg #[.slice A n c, .int .i64 d]
/-- A message is valid. -/
def vm (x : Msg) : Bool := (decide (0 ≤ x.1 ∧ x.1 ≤ 15) || x.1 == 63) && (decide (0 ≤ x.2.1 ∧ x.2.1 ≤ 3) && (decide (0 ≤ x.2.2.1 ∧ x.2.2.1 ≤ 1000000000000) && decide ((x.2.2.2.length : Int) ≤ 100)))
def vq (ms : List Msg) (d : Int) : Bool := decide (ms.length ≤ 12) && (decide (0 ≤ d) && ms.all vm)
/-- How many of the first k have this category. -/
def cnt (x : Int) (ms : List Msg) : Nat → Nat
  | 0 => 0
  | k + 1 => if (ms.getD k zm).2.1 = x then cnt x ms k + 1 else cnt x ms k
theorem cnt_le (x : Int) (ms : List Msg) : ∀ k, cnt x ms k ≤ k
  | 0 => Nat.le_refl _
  | k + 1 => by
    have := cnt_le x ms k
    unfold cnt
    split <;> omega
/-- Which of the first k is chosen by the order r; -1 if there is none. -/
def bst (r : Int → Int → Bool) (ms : List Msg) : Nat → Int
  | 0 => -1
  | k + 1 => if bst r ms k < 0 then (k : Int) else if r (ms.getD k zm).2.1 (ms.getD (bst r ms k).toNat zm).2.1 = true then (k : Int) else bst r ms k
theorem bst_range (r : Int → Int → Bool) (ms : List Msg) : ∀ k, -1 ≤ bst r ms k ∧ bst r ms k < k ∧ (0 < k → 0 ≤ bst r ms k)
  | 0 => by unfold bst; omega
  | k + 1 => by
    have h := bst_range r ms k
    unfold bst
    split
    · omega
    · split <;> omega
def gt (m e : Int) : Bool := decide (e < m)
def le (m e : Int) : Bool := decide (m ≤ e)
/-- Removal of the element number i. -/
def enq (ms : List Msg) (d : Int) (m : Msg) : List Msg × Int :=
  if vq ms d && vm m then (if (ms ++ [m]).length ≤ 12 then (ms ++ [m], d) else ((ms ++ [m]).eraseIdx (bst le (ms ++ [m]) (ms ++ [m]).length).toNat, IntKind.i64.wrap (d + 1))) else (ms, d)
def tk (ms : List Msg) (i : Int) : List Msg × Msg × Bool := if 0 ≤ i ∧ i < ms.length then (ms.eraseIdx i.toNat, ms.getD i.toNat zm, true) else (ms, zm, false)
/-- Those of the first k that are not expired; the number of dropped ones. -/
def keep (t : Int) (ms : List Msg) : Nat → List Msg
  | 0 => []
  | k + 1 => if (ms.getD k zm).2.2.1 < t then keep t ms k else keep t ms k ++ [ms.getD k zm]
def drp (t : Int) (ms : List Msg) (d : Int) : Nat → Int
  | 0 => d
  | k + 1 => if (ms.getD k zm).2.2.1 < t then IntKind.i64.wrap (drp t ms d k + 1) else drp t ms d k
theorem keep_len (t : Int) (ms : List Msg) : ∀ k, (keep t ms k).length ≤ k
  | 0 => Nat.le_refl _
  | k + 1 => by
    have := keep_len t ms k
    unfold keep
    split
    · omega
    · simp; omega
/-- How much the messages hold. -/
def blk (ms : List Msg) : Nat := (ms.map fun x => x.2.2.2.length).sum
theorem blk_snoc (ms : List Msg) (m : Msg) : blk (ms ++ [m]) = blk ms + m.2.2.2.length := by simp [blk]
theorem getD_of {ms : List Msg} {i : Nat} {x : Msg} (h : ms[i]? = some x) : ms.getD i zm = x := by rw [List.getD_eq_getElem?_getD, h]; rfl
theorem take_snoc {ms : List Msg} {i : Nat} {x : Msg} (h : ms[i]? = some x) : ms.take (i + 1) = ms.take i ++ [x] := by rw [List.take_add_one, h]; rfl

section
variable {w w' : World} {lo hi n cap : Nat} {A : Option Addr} {ms : List Msg}
end
def XPost (x : Msg) (w : World) (e : Ending) (w' : World) : Prop :=
  ∃ A n cap, e = .returned (mV x A n cap) ∧ Ow 5 .u8 w' w.heap.size w'.heap.size A n cap x.2.2.2 ∧ Below w.heap.size w w'
end Go.Proofs.Ytbkdbdhbmabgcaa.mq
end

section
namespace Go.Proofs.Ytbkdbdhbmabgcaa.mq
open Go.RowKit sl harn bx mrw
set_option linter.unusedVariables false
set_option linter.unusedSimpArgs false

theorem quiet_nilc {P : Program} {C : World → Prop} {a : Act} {o : Oper} {K : Act → Prop} (x : Operand) (h : o.op = .nilCheck x) (T : TypeId) (v : Value) (nm : String) (hx : a.eval x = .func (.method nm) #[.iface T v] #[])
    (hn : ∀ w, (nilAhead (P.types.size + Made.depth) T v nm).run P w = .ok (some false) w) (hk : K (a.put o.dst (.func (.method nm) #[.iface T v] #[]))) : o.quiet P a C K := by
  refine ⟨_, fun w _ => ?_, hk⟩
  unfold Oper.quietAt Oper.quietUpon execOp
  simp only [h, hx]
  simp [Sem.run_bind, hn]
theorem quiet_inv {P : Program} {C : World → Prop} {a : Act} {o : Oper} {K : Act → Prop} (r p q : Operand) (nm : String) (ts : Array TypeId) (h : o.op = .call { callee := .invoke r nm, args := #[p, q], argTypes := ts }) (T : TypeId) (rv pv qv : Value)
    (hr : a.eval r = .iface T rv) (hp : a.eval p = pv) (hq : a.eval q = qv) (f : FuncId) (args : Array Value) (v : Value) (hi : ∀ w, (invoke (.fn (.method nm) #[]) #[.iface T rv, pv, qv]).run P w = .ok (.enter f args) w)
    (hc : ∀ w, C w → Calls P f args w fun e w' => e = .returned v ∧ C w') (hk : K (a.put o.dst v)) : o.quiet P a C K := by
  refine ⟨v, fun w hw => ?_, hk⟩
  unfold Oper.quietAt Oper.quietUpon execOp
  simp only [h, resolve, Sem.run_bind, Sem.run_pure, Result.andThen_ok, List.map_toArray, List.map_cons, List.map_nil, hr, hp, hq]
  have e : (#[(.iface T rv : Value)] ++ #[pv, qv] : Array Value) = #[.iface T rv, pv, qv] := rfl
  rw [e, hi]
  exact ⟨rfl, hc w hw⟩
theorem nc_at {base : World} {P : Program} {f : FuncId} {args : Array Value} {v : Value} (h : ∀ m : Af base, Calls P f args m.w fun e w' => e = .returned v ∧ Below m.w.heap.size m.w w') : ∀ w, (∃ n : Af base, w = n.w) → Calls P f args w fun e w' => e = .returned v ∧ ∃ n : Af base, w' = n.w :=
  fun w hw => by
    obtain ⟨n, rfl⟩ := hw
    exact Af.call (h n)
end Go.Proofs.Ytbkdbdhbmabgcaa.mq
end

section
namespace Go.Proofs.Ytbkdbdhbmabgcaa.mq
open Go.RowKit sl harn bx mrw
set_option linter.unusedVariables false
set_option linter.unusedSimpArgs false

theorem all_vm {ms : List Msg} {n : Nat} (hl : ms.length = n) (h : ∀ j, j < n → vm (ms.getD j zm) = true) : ms.all vm = true := by
  rw [List.all_eq_true]
  intro x hx
  obtain ⟨j, hj, e⟩ := List.getElem_of_mem hx
  have := h j (by omega)
  rw [List.getD_eq_getElem?_getD, List.getElem?_eq_getElem hj] at this
  simpa [e] using this
theorem not_vm {ms : List Msg} {n j : Nat} (hl : ms.length = n) (hj : j < n) (h : vm (ms.getD j zm) = false) : ms.all vm = false := by
  rw [List.all_eq_false]
  refine ⟨ms[j], List.getElem_mem (by omega), ?_⟩
  rw [List.getD_eq_getElem?_getD, List.getElem?_eq_getElem (show j < ms.length by omega)] at h
  simpa using h
end Go.Proofs.Ytbkdbdhbmabgcaa.mq
end

section
namespace Go.Proofs.Ytbkdbdhbmabgcaa.mq
open Go.RowKit sl harn bx mrw
set_option linter.unusedVariables false
set_option linter.unusedSimpArgs false

theorem oneM (a b c : Int) (A : Option Addr) (n k : Nat) : (#[.int .i64 a, .int .i64 b, .int .i64 c, .slice A n k] : Array Value).all (·.oneCell') = true :=
  all_oneCell_toArray (cs := [.int .i64 a, .int .i64 b, .int .i64 c, .slice A n k]) (by intro v hv; simp only [List.mem_cons, List.not_mem_nil, or_false] at hv; rcases hv with rfl | rfl | rfl | rfl <;> rfl)
theorem oneQ (A : Option Addr) (n k : Nat) (a : Int) : (#[.slice A n k, .int .i64 a] : Array Value).all (·.oneCell') = true :=
  all_oneCell_toArray (cs := [.slice A n k, .int .i64 a]) (by intro v hv; simp only [List.mem_cons, List.not_mem_nil, or_false] at hv; rcases hv with rfl | rfl <;> rfl)
theorem run_makeS {P : Program} (t e : TypeId) (i : TypeInfo) (z : Value) (s : Nat) (ht : P.underlying t = some (.slice e)) (hi : P.info? e = some i) (hz : i.zero = some z) (hs : i.size = s)
    (n : Nat) (hb8 : i.bytes ≤ 128) (hn : n ≤ 67108864) (w : World) :
    (Instr.makeSlice t (.int .i64 (n : Int)) (.int .i64 (n : Int))).run P w = .ok (.slice (some ⟨w.heap.size, 0, none⟩) n n) (w.alloc (.cells (madeCells z.cells (n * s)) e)) := by
  have hb : (i.bytes : Int) * (n : Int) ≤ 281474976710656 := by
    have h : ((i.bytes * n : Nat) : Int) ≤ 281474976710656 := by
      have h1 := Nat.mul_le_mul hb8 hn
      omega
    rwa [Int.natCast_mul] at h
  have hr := run_make (P := P) w t e i z ht hi hz .i64 .i64 n n (by omega) (by omega) hb (by omega)
  simp only [Int.toNat_natCast] at hr
  rw [hs] at hr
  exact hr
/-- What remains of a bound behind t: -1 if it does not suffice. -/
def SzPost (left : Int) (t : Nat) (w : World) (e : Ending) (w' : World) : Prop := ∃ r : Int, e = .returned (.int .i64 r) ∧ ((r = -1 ∧ left < t) ∨ (r = left - t ∧ (t : Int) ≤ left)) ∧ Below w.heap.size w w'
theorem szB_in (A : Option Addr) (n cap : Nat) (left : Int) (hl : 0 ≤ left ∧ left ≤ 1048576) (hn : (n : Int) ≤ 9223372036854775807) (hle : (n : Int) ≤ left) (w : World) :
    Calls Try.prog 81 #[.slice A n cap, .int .i64 left] w fun e w' => e = .returned (.int .i64 (left - n)) ∧ w = w' := by
  obtain ⟨h0, h1⟩ := hl
  have hd : IntKind.i64.wrap (left - n) = left - n := IntWalk.i64_in _ (by omega)
  have hq : ¬ left - n < 0 := by omega
  go_enter Try.func81, Try.ntmps81
  go_wp2
  go_ret
  exact ⟨rfl, rfl⟩
theorem szB_out (A : Option Addr) (n cap : Nat) (left : Int) (hl : 0 ≤ left ∧ left ≤ 1048576) (hn : (n : Int) ≤ 9223372036854775807) (hle : left < (n : Int)) (w : World) :
    Calls Try.prog 81 #[.slice A n cap, .int .i64 left] w fun e w' => e = .returned (.int .i64 (-1)) ∧ w = w' := by
  obtain ⟨h0, h1⟩ := hl
  have hd : IntKind.i64.wrap (left - n) = left - n := IntWalk.i64_in _ (by omega)
  have hq : left - n < 0 := by omega
  go_enter Try.func81, Try.ntmps81
  go_wp2
  go_ret
  exact ⟨rfl, rfl⟩
end Go.Proofs.Ytbkdbdhbmabgcaa.mq
end

section
namespace Go.Proofs.Ytbkdbdhbmabgcaa.mq
open Go.RowKit sl harn bx mrw
set_option linter.unusedVariables false
set_option linter.unusedSimpArgs false

/-- The marks of messages: consecutive numbers. -/
def mk1 (q : Int) (m : Msg) : Msg := (q, q + 1, q + 2, marks .u8 (q + 3) m.2.2.2.length)
def mks : Int → List Msg → List Msg
  | _, [] => []
  | q, m :: r => mk1 q m :: mks (q + 3 + m.2.2.2.length) r
def tot (ms : List Msg) : Int := 3 * (ms.length : Int) + (blk ms : Nat)
theorem tot_snoc (ms : List Msg) (m : Msg) : tot (ms ++ [m]) = tot ms + 3 + m.2.2.2.length := by
  unfold tot
  rw [blk_snoc]
  simp
  omega
theorem tot_nonneg (ms : List Msg) : 0 ≤ tot ms := by unfold tot; omega
theorem tot_cons (m : Msg) (ms : List Msg) : tot (m :: ms) = 3 + m.2.2.2.length + tot ms := by
  unfold tot blk
  simp
  omega
theorem blk_append (a b : List Msg) : blk (a ++ b) = blk a + blk b := by simp [blk]
theorem tot_take (ms : List Msg) (k : Nat) : tot (ms.take k) ≤ tot ms := by
  have h : tot (ms.take k ++ ms.drop k) = tot (ms.take k) + tot (ms.drop k) := by
    unfold tot
    rw [blk_append, List.length_append]
    omega
  have h2 := tot_nonneg (ms.drop k)
  rw [List.take_append_drop] at h
  omega
theorem mks_snoc (m : Msg) : ∀ (l : List Msg) (q : Int), mks q (l ++ [m]) = mks q l ++ [mk1 (q + tot l) m]
  | [], q => by simp [mks, tot, blk]
  | x :: r, q => by
    have e : q + 3 + (x.2.2.2.length : Int) + tot r = q + tot (x :: r) := by rw [tot_cons]; omega
    rw [List.cons_append, mks, mks_snoc m r, mks, e]
    rfl
theorem mks_len : ∀ (l : List Msg) (q : Int), (mks q l).length = l.length
  | [], _ => rfl
  | x :: r, q => by rw [mks, List.length_cons, mks_len r, List.length_cons]
theorem mks_at {ms : List Msg} {j : Nat} {m : Msg} (h : ms[j]? = some m) (q : Int) : (mks q ms)[j]? = some (mk1 (q + tot (ms.take j)) m) := by
  induction ms generalizing j q with
  | nil => simp at h
  | cons x r ih =>
    cases j with
    | zero =>
      have : x = m := by simpa using h
      subst this
      simp [mks, tot, blk]
    | succ j =>
      have h2 : r[j]? = some m := by simpa using h
      rw [mks, List.getElem?_cons_succ, ih h2, List.take_succ_cons, tot_cons]
      congr 2
      omega
theorem tch_trans {lo hi : Nat} {a b c : World} (h : Tch lo hi a b) (g : Tch lo hi b c) : Tch lo hi a c :=
  ⟨g.os.trans h.os, g.tape.trans h.tape, g.output.trans h.output, Nat.le_trans h.size g.size, fun k hk hd => (g.block k (Nat.lt_of_lt_of_le hk h.size) hd).trans (h.block k hk hd)⟩
theorem tch_set {lo hi b : Nat} {w0 w : World} (h : Tch lo hi w0 w) (hb : lo ≤ b ∧ b < hi) (i : Nat) (v : Value) : Tch lo hi w0 (w.setCell ⟨b, i, none⟩ v) :=
  ⟨h.os, h.tape, h.output, by simpa [World.setCell] using h.size, fun k hk hd => by rw [Below.heap_setCell _ _ _ _ (show k ≠ b by omega)]; exact h.block k hk hd⟩
theorem set_map {es : List (El Msg)} {l r : List Msg} {j : Nat} {m : Msg} (h : es.map (·.x) = l ++ m :: r) (hl : l.length = j) (x' : Msg) (A : Option Addr) (n c : Nat) : (es.set j ⟨x', A, n, c⟩).map (·.x) = l ++ x' :: r := by
  rw [List.map_set, h, List.set_append_right _ _ (by omega), hl, Nat.sub_self]
  rfl
end Go.Proofs.Ytbkdbdhbmabgcaa.mq
end

section
namespace Go.Proofs.Ytbkdbdhbmabgcaa.mq
open Go.RowKit sl harn bx mrw
set_option linter.unusedVariables false
set_option linter.unusedSimpArgs false

theorem x_parts {x : Msg} {w w' : World} {e : Ending} (h : XPost x w e w') : ∃ A n cap, e = .returned (mV x A n cap) ∧ Ow 5 .u8 w' w.heap.size w'.heap.size A n cap x.2.2.2 ∧ Below w.heap.size w w' := h
theorem copyAll (lo hi : Nat) (A : Option Addr) (n cap : Nat) (zs : List Int) (w : World) (h : Rd .u8 w lo hi A n cap zs) (hn : n ≤ 134217728) :
    Calls Try.prog 52 #[.slice A n cap, .int .i64 0, .int .i64 n] w (SlPost 5 .u8 w zs) := by
  have hh := uvs.copyPart lo hi A n cap zs 0 n w h (by omega) (Nat.le_refl _) hn
  have e : (zs.drop 0).take (n - 0) = zs := by rw [List.drop_zero]; exact List.take_of_length_le (by rw [h.len]; omega)
  rw [e] at hh
  exact hh
end Go.Proofs.Ytbkdbdhbmabgcaa.mq
end

section
namespace Go.Proofs.Ytbkdbdhbmabgcaa.mq
open Go.RowKit sl harn bx mrw
set_option linter.unusedVariables false
set_option linter.unusedSimpArgs false

/-- A block without cells is an empty row. -/
theorem oe_box {α : Type} {S : Sh α} {w : World} {b : Nat} (h : Bx S.T w b #[]) : Oe S w b w.heap.size (some ⟨b, 0, none⟩) 0 0 [] :=
  ⟨⟨by simp [flat], .inr ⟨b, 0, #[], rfl, Nat.le_refl _, h, Nat.le_refl _, by unfold maxLen; omega, by simp, by simp [flat]⟩⟩, fun _ h => (by cases h), List.Pairwise.nil, Nat.le_refl _, fun g o e => by
    injection e with e; injection e with e _; subst e; exact h.lt⟩
end Go.Proofs.Ytbkdbdhbmabgcaa.mq
end

section
namespace Go.Proofs.Ytbkdbdhbmabgcaa.stw
open Go.RowKit sl harn bx
set_option linter.unusedVariables false

theorem wp_load_bx {P : Program} {o : Oper} {a : Act} {w : World} {K : Act → World → Prop} {Q : Exit → Act → World → Prop} (ty : TypeId) (x : Operand) (ho : o.op = .load ty x)
    (b : Nat) (hx : a.eval x = .pointer (some ⟨b, 0, none⟩)) (T : TypeId) (cur : Array Value) (hX : Bx T w b cur) {d : TypeDesc} (hu : P.underlying ty = some d) (hd : d.isRow = true) (hi : (P.info? ty).map (·.size) = some cur.size)
    (h : K (a.put o.dst (.agg cur)) w) : Oper.wp P o a w K Q := by
  refine wp_load_mid ty x ho b 0 hx cur.toList d (range_of hX) hu hd (by simpa using hi) ?_
  simpa using h
end Go.Proofs.Ytbkdbdhbmabgcaa.stw
end

section
namespace Go.Proofs.Ytbkdbdhbmabgcaa.mq
open Go.RowKit sl harn bx mrw
set_option linter.unusedVariables false
set_option linter.unusedSimpArgs false

theorem drp_wf {t : Int} {ms : List Msg} {d : Int} (hd : (Lit.int .i64 d).wf = true) : ∀ k, (Lit.int .i64 (drp t ms d k)).wf = true
  | 0 => hd
  | k + 1 => by
    unfold drp
    split
    · exact wf_wrap .i64 _
    · exact drp_wf hd k
end Go.Proofs.Ytbkdbdhbmabgcaa.mq
end

section
namespace Go.Proofs.Ytbkdbdhbmabgcaa.mq
open Go.RowKit sl harn bx mrw
set_option linter.unusedVariables false
set_option linter.unusedSimpArgs false

end Go.Proofs.Ytbkdbdhbmabgcaa.mq
end

section
namespace Go.Proofs.Ytbkdbdhbmabgcaa.ux
open Go.RowKit sl harn bx
set_option linter.unusedVariables false

/-- A type's values as data. -/
structure Rep (α : Type) where
  n : Nat
  R : World → Nat → Nat → Value → α → Prop
  O : World → List Nat → Value → α → Prop
  sz : α → Nat
  tot : α → Nat
  mkx : Int → α → α
  pos : 0 < n
  len : ∀ {w lo hi v x}, R w lo hi v x → v.cells.size = n
  one : ∀ {w lo hi v x}, R w lo hi v x → v.cells.all (·.oneCell') = true
  same : ∀ {w w' lo hi v x}, R w lo hi v x → w.heap.size ≤ w'.heap.size → (∀ b, lo ≤ b → b < hi → w'.heap[b]? = w.heap[b]?) → R w' lo hi v x
  hi_ : ∀ {w lo hi v x}, R w lo hi v x → hi ≤ w.heap.size
  osame : ∀ {w w' fp v x}, O w fp v x → w.heap.size ≤ w'.heap.size → (∀ b, b ∈ fp → w'.heap[b]? = w.heap[b]?) → O w' fp v x
  rd : ∀ {w fp lo hi v x}, O w fp v x → (∀ b, b ∈ fp → lo ≤ b ∧ b < hi) → hi ≤ w.heap.size → R w lo hi v x
  lt : ∀ {w fp v x}, O w fp v x → ∀ b, b ∈ fp → b < w.heap.size
  nd : ∀ {w fp v x}, O w fp v x → fp.Nodup
  tle : ∀ x, tot x ≤ 64 * sz x + 64

/-- A value that is read. -/
def RR {α : Type} (S : Rep α) (w : World) (lo hi : Nat) (v : Value) (x : α) : Prop := S.R w lo hi v x
/-- A value of the call's own: all its blocks lie from lo to below hi. -/
def OO {α : Type} (S : Rep α) (w : World) (lo hi : Nat) (fp : List Nat) (v : Value) (x : α) : Prop := S.O w fp v x ∧ (∀ b, b ∈ fp → lo ≤ b ∧ b < hi) ∧ hi ≤ w.heap.size
section
variable {α : Type} {S : Rep α} {w w' : World} {lo hi : Nat} {v : Value} {x : α} {fp : List Nat}
theorem RR.same (h : RR S w lo hi v x) (hs : w.heap.size ≤ w'.heap.size) (hb : ∀ b, lo ≤ b → b < hi → w'.heap[b]? = w.heap[b]?) : RR S w' lo hi v x := S.same h hs hb
theorem RR.hi_ (h : RR S w lo hi v x) : hi ≤ w.heap.size := S.hi_ h
theorem RR.below (h : RR S w lo hi v x) (hb : Below w.heap.size w w') : RR S w' lo hi v x := h.same hb.size fun b _ hlt => hb.block b (by have := h.hi_; omega)
theorem RR.ks (h : RR S w lo hi v x) (hb : stw.KS fp w w') (hd : ∀ b, lo ≤ b → b < hi → b ∉ fp) : RR S w' lo hi v x := h.same hb.size fun b h1 h2 => hb.block b (by have := h.hi_; omega) (hd b h1 h2)
theorem OO.same (h : OO S w lo hi fp v x) (hs : w.heap.size ≤ w'.heap.size) (hb : ∀ b, lo ≤ b → b < hi → w'.heap[b]? = w.heap[b]?) : OO S w' lo hi fp v x :=
  ⟨S.osame h.1 hs fun b hm => hb b (h.2.1 b hm).1 (h.2.1 b hm).2, h.2.1, by have := h.2.2; omega⟩
theorem OO.hi_ (h : OO S w lo hi fp v x) : hi ≤ w.heap.size := h.2.2
theorem OO.below (h : OO S w lo hi fp v x) (hb : Below w.heap.size w w') : OO S w' lo hi fp v x := h.same hb.size fun b _ hlt => hb.block b (by have := h.hi_; omega)
theorem OO.ks {f2 : List Nat} (h : OO S w lo hi fp v x) (hb : stw.KS f2 w w') (hd : ∀ b, b ∈ fp → b ∉ f2) : OO S w' lo hi fp v x :=
  ⟨S.osame h.1 hb.size fun b hm => hb.block b (S.lt h.1 b hm) (hd b hm), h.2.1, by have := h.2.2; have := hb.size; omega⟩
theorem OO.rd (h : OO S w lo hi fp v x) : RR S w lo hi v x := S.rd h.1 h.2.1 h.2.2
theorem OO.inn (h : OO S w lo hi fp v x) : ∀ b, b ∈ fp → lo ≤ b ∧ b < hi := h.2.1
end
/-- What a function hands back that copies. -/
def ToPost {α : Type} (S : Rep α) (x : α) (w : World) (e : Ending) (w' : World) : Prop := ∃ v fp, e = .returned v ∧ OO S w' w.heap.size w'.heap.size fp v x ∧ Below w.heap.size w w'
theorem ToPost.parts {α : Type} {S : Rep α} {x : α} {w w' : World} {e : Ending} (h : ToPost S x w e w') : ∃ v fp, e = .returned v ∧ OO S w' w.heap.size w'.heap.size fp v x ∧ Below w.heap.size w w' := h
/-- What marking leaves. -/
def MkPost {α : Type} (S : Rep α) (x' : α) (k : Int) (lo hi : Nat) (fp : List Nat) (v : Value) (w : World) (e : Ending) (w' : World) : Prop := e = .returned (.int .i64 k) ∧ OO S w' lo hi fp v x' ∧ stw.KS fp w w'
theorem MkPost.parts {α : Type} {S : Rep α} {x' : α} {k : Int} {lo hi : Nat} {fp : List Nat} {v : Value} {w w' : World} {e : Ending} (h : MkPost S x' k lo hi fp v w e w') : e = .returned (.int .i64 k) ∧ OO S w' lo hi fp v x' ∧ stw.KS fp w w' := h
/-- What remains of a bound behind t: -1 if it does not suffice. -/
def ZPost (left : Int) (t : Nat) (w : World) (e : Ending) (w' : World) : Prop := ∃ r : Int, e = .returned (.int .i64 r) ∧ ((r = -1 ∧ left < t) ∨ (r = left - t ∧ (t : Int) ≤ left)) ∧ Below w.heap.size w w'
theorem ZPost.parts {left : Int} {t : Nat} {w w' : World} {e : Ending} (h : ZPost left t w e w') : ∃ r : Int, e = .returned (.int .i64 r) ∧ ((r = -1 ∧ left < t) ∨ (r = left - t ∧ (t : Int) ≤ left)) ∧ Below w.heap.size w w' := h

/-- The block of a slice's address. -/
def blks : Option Addr → List Nat
  | none => []
  | some a => [a.block]
theorem ks_below {w w' : World} (h : Below w.heap.size w w') (F : List Nat) : stw.KS F w w' := ⟨h.os, h.tape, h.output, h.size, fun k hk _ => h.block k hk⟩
theorem ks_more {F G : List Nat} {w w' : World} (h : stw.KS F w w') (hs : ∀ b, b ∈ F → b ∈ G) : stw.KS G w w' := ⟨h.os, h.tape, h.output, h.size, fun k h1 h2 => h.block k h1 fun hm => h2 (hs k hm)⟩
theorem ks_set {F : List Nat} {w : World} {b : Nat} (hb : b ∈ F) (i : Nat) (v : Value) : stw.KS F w (w.setCell ⟨b, i, none⟩ v) :=
  ⟨rfl, rfl, rfl, by simp [World.setCell], fun k h1 h2 => Below.heap_setCell _ _ _ _ (fun e => h2 (e ▸ hb))⟩
theorem ks_bel {F : List Nat} {w w' : World} {B : Nat} (h : stw.KS F w w') (hF : ∀ b, b ∈ F → B ≤ b) (hB : B ≤ w.heap.size) : Below B w w' := h.below hF hB

section nums
variable {E : TypeId} {k : IntKind} {w w' : World} {n c lo hi : Nat} {A : Option Addr} {zs : List Int}
theorem ow_as (h : Ow E k w lo hi A n c zs) (hs : w.heap.size ≤ w'.heap.size) (hb : ∀ b, b ∈ blks A → w'.heap[b]? = w.heap[b]?) : Ow E k w' lo hi A n c zs := by
  obtain ⟨⟨h1, h2⟩, h3, h4, h5⟩ := h
  refine ⟨⟨h1, ?_⟩, h3, by omega, h5⟩
  rcases h2 with h2 | ⟨g, c, cur, e, g1, g2, g3⟩
  · exact Or.inl h2
  · injection e with e1 e2 e3
    refine Or.inr ⟨g, c, cur, by rw [e1, e3], g1, ?_, g3⟩
    rw [hb g (by rw [e1]; exact List.mem_singleton.2 rfl)]; exact g2
theorem ow_to {lo2 hi2 : Nat} (h : Ow E k w lo hi A n c zs) (hb : ∀ b, b ∈ blks A → lo2 ≤ b ∧ b < hi2) (hh : hi2 ≤ w.heap.size) : Ow E k w lo2 hi2 A n c zs := by
  obtain ⟨⟨h1, h2⟩, h3, h4, h5⟩ := h
  refine ⟨⟨h1, ?_⟩, h3, hh, fun g o e => (hb g (by rw [e]; exact List.mem_singleton.2 rfl)).2⟩
  rcases h2 with h2 | ⟨g, c, cur, e, g1, g2, g3⟩
  · exact Or.inl h2
  · injection e with e1 e2 e3
    exact Or.inr ⟨g, c, cur, by rw [e1, e3], (hb g (by rw [e1]; exact List.mem_singleton.2 rfl)).1, g2, g3⟩
theorem ow_in (h : Ow E k w lo hi A n c zs) : ∀ b, b ∈ blks A → lo ≤ b ∧ b < hi := by
  intro b hb
  rcases h.form with ⟨rfl, _⟩ | ⟨g, cur, rfl, h1, h2, _⟩
  · cases hb
  · obtain rfl : b = g := by simpa [blks] using hb
    exact ⟨h1, h2⟩
end nums
theorem sl_one (A : Option Addr) (n c : Nat) : (Value.slice A n c).cells.all (·.oneCell') = true := by
  have h := all_oneCell_toArray (cs := [.slice A n c]) (by intro v hv; simp only [List.mem_singleton] at hv; subst hv; rfl)
  exact h
/-- Slices of numbers. -/
def num (E : TypeId) (k : IntKind) : Rep (List Int) where
  n := 1
  R := fun w lo hi v zs => ∃ A n c, v = .slice A n c ∧ Rd k w lo hi A n c zs
  O := fun w fp v zs => ∃ A n c, v = .slice A n c ∧ Ow E k w 0 w.heap.size A n c zs ∧ fp = blks A
  sz := fun zs => zs.length
  tot := fun zs => zs.length
  mkx := fun q zs => marks k q zs.length
  pos := Nat.one_pos
  len := fun ⟨A, n, c, e, h⟩ => by subst e; rfl
  one := fun ⟨A, n, c, e, h⟩ => by subst e; exact sl_one _ _ _
  same := fun ⟨A, n, c, e, h⟩ hs hb => ⟨A, n, c, e, h.same hs hb⟩
  hi_ := fun ⟨A, n, c, e, h⟩ => h.hi_
  osame := fun ⟨A, n, c, e, h, hf⟩ hs hb => ⟨A, n, c, e, (ow_as h hs (fun b hm => hb b (hf ▸ hm))).up, hf⟩
  rd := fun ⟨A, n, c, e, h, hf⟩ hb hh => ⟨A, n, c, e, (ow_to h (fun b hm => hb b (hf ▸ hm)) hh).rd⟩
  lt := fun ⟨A, n, c, e, h, hf⟩ b hm => (ow_in h b (hf ▸ hm)).2
  nd := fun ⟨A, n, c, e, h, hf⟩ => by rw [hf]; cases A <;> simp [blks]
  tle := fun zs => by show zs.length ≤ 64 * zs.length + 64; omega
theorem num_of {E : TypeId} {k : IntKind} {w : World} {n c lo hi : Nat} {A : Option Addr} {zs : List Int} (h : Ow E k w lo hi A n c zs) : OO (num E k) w lo hi (blks A) (.slice A n c) zs :=
  ⟨⟨A, n, c, rfl, h.up.down (Nat.zero_le _), rfl⟩, ow_in h, h.hi_⟩
theorem num_rd {E : TypeId} {k : IntKind} {w : World} {n c lo hi : Nat} {A : Option Addr} {zs : List Int} (h : Rd k w lo hi A n c zs) : RR (num E k) w lo hi (.slice A n c) zs := ⟨A, n, c, rfl, h⟩
theorem num_open {E : TypeId} {k : IntKind} {w : World} {lo hi : Nat} {fp : List Nat} {v : Value} {zs : List Int} (h : OO (num E k) w lo hi fp v zs) : ∃ A n c, v = .slice A n c ∧ Ow E k w lo hi A n c zs ∧ fp = blks A := by
  obtain ⟨⟨A, n, c, e, ho, hf⟩, h2, h3⟩ := h
  exact ⟨A, n, c, e, ow_to ho (fun b hm => h2 b (hf ▸ hm)) h3, hf⟩

/-- An element with its blocks. -/
structure Ue (α : Type) where
  fp : List Nat
  v : Value
  x : α
section rows
variable {α : Type} (S : Rep α)
def flt (es : List (Ue α)) : List Value := es.flatMap fun e => e.v.cells.toList
def fps (es : List (Ue α)) : List Nat := es.flatMap (·.fp)
def mks (mk : Int → α → α) (tot : α → Nat) : Int → List α → List α
  | _, [] => []
  | q, x :: r => mk q x :: mks mk tot (q + tot x) r
def sumT (tot : α → Nat) (l : List α) : Nat := (l.map tot).sum
def rowR (w : World) (lo hi : Nat) (v : Value) (xs : List α) : Prop :=
  ∃ A n c, v = .slice A n c ∧ xs.length = n ∧ n ≤ c ∧ c ≤ maxLen ∧ hi ≤ w.heap.size ∧ (0 < n → ∃ b off, A = some ⟨b, off, none⟩ ∧ lo ≤ b ∧ b < hi ∧ ∀ i x, xs[i]? = some x → ∃ u, w.rangeAt b (off + i * S.n) u.cells.toList ∧ S.R w lo hi u x)
def rowO (T : TypeId) (w : World) (fp : List Nat) (v : Value) (xs : List α) : Prop :=
  ∃ (A : Option Addr) (n c : Nat) (es : List (Ue α)), v = .slice A n c ∧ es.map (·.x) = xs ∧ (∀ e ∈ es, S.O w e.fp e.v e.x ∧ e.v.cells.size = S.n ∧ e.v.cells.all (·.oneCell') = true) ∧ fp.Nodup ∧
    ((A = none ∧ n = 0 ∧ c = 0 ∧ es = [] ∧ fp = []) ∨ ∃ g cur, A = some ⟨g, 0, none⟩ ∧ w.heap[g]? = some (.cells cur T (0, 0)) ∧ es.length = n ∧ n ≤ c ∧ c ≤ maxLen ∧ cur.size = c * S.n ∧ cur.toList.take (n * S.n) = flt es ∧ fp = g :: fps es)
end rows
theorem flt_append {α : Type} (a b : List (Ue α)) : flt (a ++ b) = flt a ++ flt b := by simp [flt]
theorem fps_append {α : Type} (a b : List (Ue α)) : fps (a ++ b) = fps a ++ fps b := by simp [fps]
theorem flt_len {α : Type} {s : Nat} : ∀ (es : List (Ue α)), (∀ e ∈ es, e.v.cells.size = s) → (flt es).length = es.length * s
  | [], _ => by simp [flt]
  | e :: r, h => by
    have h1 : flt (e :: r) = e.v.cells.toList ++ flt r := rfl
    rw [h1, List.length_append, flt_len r (fun f hf => h f (List.mem_cons_of_mem _ hf)), List.length_cons, Nat.add_mul, Nat.one_mul, Nat.add_comm]
    have := h e List.mem_cons_self
    simp; omega
theorem mem_fps {α : Type} {es : List (Ue α)} {e : Ue α} (he : e ∈ es) {b : Nat} (hb : b ∈ e.fp) : b ∈ fps es := List.mem_flatMap.2 ⟨e, he, hb⟩
theorem sumT_snoc {α : Type} (tot : α → Nat) (l : List α) (x : α) : sumT tot (l ++ [x]) = sumT tot l + tot x := by simp [sumT]
theorem sumT_cons {α : Type} (tot : α → Nat) (l : List α) (x : α) : sumT tot (x :: l) = tot x + sumT tot l := by simp [sumT]
theorem sumT_append {α : Type} (tot : α → Nat) (a b : List α) : sumT tot (a ++ b) = sumT tot a + sumT tot b := by simp [sumT]
theorem sumT_take {α : Type} (tot : α → Nat) (l : List α) (k : Nat) : sumT tot (l.take k) ≤ sumT tot l := by
  have := sumT_append tot (l.take k) (l.drop k)
  rw [List.take_append_drop] at this
  omega
theorem sumT_mem {α : Type} (tot : α → Nat) {l : List α} {x : α} (h : x ∈ l) : tot x ≤ sumT tot l := by
  induction l with
  | nil => cases h
  | cons a r ih =>
    rw [sumT_cons]
    rcases List.mem_cons.1 h with rfl | h
    · omega
    · have := ih h; omega
theorem sumT_le {α : Type} (tot sz : α → Nat) (h : ∀ x, tot x ≤ 64 * sz x + 64) : ∀ l : List α, sumT tot l ≤ 64 * (l.length + sumT sz l)
  | [] => by simp [sumT]
  | x :: r => by
    have := h x
    have := sumT_le tot sz h r
    rw [sumT_cons, sumT_cons, List.length_cons]; omega
theorem take_snoc {α : Type} {l : List α} {i : Nat} {x : α} (h : l[i]? = some x) : l.take (i + 1) = l.take i ++ [x] := by rw [List.take_add_one, h]; rfl
section marks
variable {α : Type} (mk : Int → α → α) (tot : α → Nat)
theorem mks_snoc (x : α) : ∀ (l : List α) (q : Int), mks mk tot q (l ++ [x]) = mks mk tot q l ++ [mk (q + sumT tot l) x]
  | [], q => by simp [mks, sumT]
  | y :: r, q => by
    have e : q + (tot y : Int) + (sumT tot r : Nat) = q + (sumT tot (y :: r) : Nat) := by rw [sumT_cons]; omega
    rw [List.cons_append, mks, mks_snoc x r, mks, e]
    rfl
theorem mks_len : ∀ (l : List α) (q : Int), (mks mk tot q l).length = l.length
  | [], _ => rfl
  | x :: r, q => by rw [mks, List.length_cons, mks_len r, List.length_cons]
theorem mks_at {l : List α} {j : Nat} {m : α} (h : l[j]? = some m) (q : Int) : (mks mk tot q l)[j]? = some (mk (q + (sumT tot (l.take j) : Nat)) m) := by
  induction l generalizing j q with
  | nil => simp at h
  | cons x r ih =>
    cases j with
    | zero =>
      have : x = m := by simpa using h
      subst this
      simp [mks, sumT]
    | succ j =>
      have h2 : r[j]? = some m := by simpa using h
      rw [mks, List.getElem?_cons_succ, ih h2, List.take_succ_cons, sumT_cons]
      congr 2
      omega
end marks
theorem rangeAt_same {w w' : World} {b o : Nat} {cs : List Value} (h : w.rangeAt b o cs) (hb : w'.heap[b]? = w.heap[b]?) : w'.rangeAt b o cs :=
  fun j v hj => (World.cell?_of_block (w := w) hb).trans (h j v hj)
/-- The cells of element number i. -/
theorem flt_at {α : Type} {s : Nat} : ∀ {es : List (Ue α)} {i : Nat} {e : Ue α}, (∀ e ∈ es, e.v.cells.size = s) → es[i]? = some e → ∀ {j : Nat} {v : Value}, e.v.cells.toList[j]? = some v → (flt es)[i * s + j]? = some v
  | f :: r, 0, e, hs, h, j, v, hv => by
    have : f = e := by simpa using h
    subst this
    have h1 : flt (f :: r) = f.v.cells.toList ++ flt r := rfl
    have hj : j < f.v.cells.toList.length := (List.getElem?_eq_some_iff.1 hv).1
    rw [h1, Nat.zero_mul, Nat.zero_add, List.getElem?_append_left hj]; exact hv
  | f :: r, i + 1, e, hs, h, j, v, hv => by
    have h2 : r[i]? = some e := by simpa using h
    have h1 : flt (f :: r) = f.v.cells.toList ++ flt r := rfl
    have hl : f.v.cells.toList.length = s := by simpa using hs f List.mem_cons_self
    have ih := flt_at (s := s) (es := r) (fun g hg => hs g (List.mem_cons_of_mem _ hg)) h2 hv
    rw [h1, List.getElem?_append_right (by rw [hl, Nat.add_mul, Nat.one_mul]; omega), hl, show (i + 1) * s + j - s = i * s + j by rw [Nat.add_mul, Nat.one_mul]; omega]
    exact ih
section
variable {α : Type} {S : Rep α} {T : TypeId} {w w' : World} {lo hi : Nat} {fp : List Nat} {v : Value} {xs : List α}
theorem rowR.same (h : rowR S w lo hi v xs) (hs : w.heap.size ≤ w'.heap.size) (hb : ∀ b, lo ≤ b → b < hi → w'.heap[b]? = w.heap[b]?) : rowR S w' lo hi v xs := by
  obtain ⟨A, n, c, e, h1, h2, h3, h4, h5⟩ := h
  refine ⟨A, n, c, e, h1, h2, h3, by omega, fun hn => ?_⟩
  obtain ⟨b, off, eA, g1, g2, g3⟩ := h5 hn
  refine ⟨b, off, eA, g1, g2, fun i x hx => ?_⟩
  obtain ⟨u, r1, r2⟩ := g3 i x hx
  exact ⟨u, rangeAt_same r1 (hb b g1 g2), S.same r2 hs hb⟩
theorem rowO.same (h : rowO S T w fp v xs) (hs : w.heap.size ≤ w'.heap.size) (hb : ∀ b, b ∈ fp → w'.heap[b]? = w.heap[b]?) : rowO S T w' fp v xs := by
  obtain ⟨A, n, c, es, e, hm, ho, hnd, h⟩ := h
  rcases h with ⟨rfl, rfl, rfl, rfl, rfl⟩ | ⟨g, cur, rfl, hg, h2, h3, h4, h5, h6, hf⟩
  · exact ⟨none, 0, 0, [], e, hm, fun _ h => (by cases h), hnd, .inl ⟨rfl, rfl, rfl, rfl, rfl⟩⟩
  · refine ⟨_, n, c, es, e, hm, fun f hf2 => ⟨S.osame (ho f hf2).1 hs fun b hbf => hb b (by rw [hf]; exact List.mem_cons_of_mem _ (mem_fps hf2 hbf)), (ho f hf2).2⟩, hnd, .inr ⟨g, cur, rfl, ?_, h2, h3, h4, h5, h6, hf⟩⟩
    rw [hb g (by rw [hf]; exact List.mem_cons_self)]; exact hg
theorem rowO.lt (h : rowO S T w fp v xs) : ∀ b, b ∈ fp → b < w.heap.size := by
  obtain ⟨A, n, c, es, e, hm, ho, hnd, h⟩ := h
  intro b hb
  rcases h with ⟨rfl, rfl, rfl, rfl, rfl⟩ | ⟨g, cur, rfl, hg, h2, h3, h4, h5, h6, hf⟩
  · cases hb
  · rw [hf] at hb
    rcases List.mem_cons.1 hb with rfl | hb
    · exact lt_of_block hg
    · obtain ⟨f, hf2, hbf⟩ := List.mem_flatMap.1 hb
      exact S.lt (ho f hf2).1 b hbf
theorem rowO.rd (h : rowO S T w fp v xs) (hb : ∀ b, b ∈ fp → lo ≤ b ∧ b < hi) (hh : hi ≤ w.heap.size) : rowR S w lo hi v xs := by
  obtain ⟨A, n, c, es, e, hm, ho, hnd, h⟩ := h
  rcases h with ⟨rfl, rfl, rfl, rfl, rfl⟩ | ⟨g, cur, rfl, hg, h2, h3, h4, h5, h6, hf⟩
  · exact ⟨none, 0, 0, e, by rw [← hm]; rfl, Nat.le_refl _, by unfold maxLen; omega, hh, fun h => absurd h (by omega)⟩
  · have hg1 := hb g (by rw [hf]; exact List.mem_cons_self)
    refine ⟨_, n, c, e, by rw [← hm]; simpa using h2, h3, h4, hh, fun hn => ⟨g, 0, rfl, hg1.1, hg1.2, fun i x hx => ?_⟩⟩
    rw [← hm, List.getElem?_map] at hx
    cases he : es[i]? with
    | none => rw [he] at hx; cases hx
    | some f =>
      rw [he] at hx
      obtain rfl : f.x = x := by simpa using hx
      have hfm := List.mem_of_getElem? he
      refine ⟨f.v, fun j u hu => ?_, S.rd (ho f hfm).1 (fun b hbf => hb b (by rw [hf]; exact List.mem_cons_of_mem _ (mem_fps hfm hbf))) hh⟩
      have h7 := flt_at (fun e he => (ho e he).2.1) he hu
      rw [← h6, List.getElem?_take] at h7
      split at h7
      · rw [Nat.zero_add]
        simp only [World.cell?, hg]
        simpa using h7
      · cases h7
end
/-- Slices of whatever elements; T: the elements' type. -/
def row {α : Type} (T : TypeId) (S : Rep α) : Rep (List α) where
  n := 1
  R := rowR S
  O := rowO S T
  sz := fun xs => xs.length + sumT S.sz xs
  tot := sumT S.tot
  mkx := mks S.mkx S.tot
  pos := Nat.one_pos
  len := fun ⟨A, n, c, e, h⟩ => by subst e; rfl
  one := fun ⟨A, n, c, e, h⟩ => by subst e; exact sl_one _ _ _
  same := rowR.same
  hi_ := fun ⟨A, n, c, e, h1, h2, h3, h4, _⟩ => h4
  osame := rowO.same
  rd := rowO.rd
  lt := rowO.lt
  nd := fun ⟨A, n, c, es, e, hm, ho, hnd, h⟩ => hnd
  tle := fun xs => by have := sumT_le S.tot S.sz S.tle xs; show sumT S.tot xs ≤ 64 * (xs.length + sumT S.sz xs) + 64; omega
theorem row_tot {α : Type} (T : TypeId) (S : Rep α) (xs : List α) : (row T S).tot xs ≤ 64 * (row T S).sz xs := sumT_le S.tot S.sz S.tle xs
section
variable {α : Type} {S : Rep α} {T : TypeId} {w w' : World} {lo hi : Nat} {fp : List Nat} {v : Value} {xs : List α}
/-- A slice that is read, opened. -/
theorem row_open (h : RR (row T S) w lo hi v xs) : ∃ A n c, v = .slice A n c ∧ xs.length = n ∧ n ≤ c ∧ c ≤ 9223372036854775807 := by
  obtain ⟨A, n, c, e, h1, h2, h3, _⟩ := h
  exact ⟨A, n, c, e, h1, h2, by unfold maxLen at h3; omega⟩
theorem row_at {A : Option Addr} {n c : Nat} (h : RR (row T S) w lo hi (.slice A n c) xs) {i : Nat} (hi' : i < n) : ∃ b off x u, A = some ⟨b, off, none⟩ ∧ xs[i]? = some x ∧ lo ≤ b ∧ b < hi ∧ w.rangeAt b (off + i * S.n) u.cells.toList ∧ RR S w lo hi u x := by
  obtain ⟨A', n', c', e, h1, h2, h3, h4, h5⟩ := h
  injection e with e1 e2 e3
  subst e1 e2 e3
  obtain ⟨b, off, eA, g1, g2, g3⟩ := h5 (by omega)
  have hx : xs[i]? = some xs[i] := List.getElem?_eq_getElem (by omega)
  obtain ⟨u, r1, r2⟩ := g3 i _ hx
  exact ⟨b, off, _, u, eA, hx, g1, g2, r1, r2⟩
end
end Go.Proofs.Ytbkdbdhbmabgcaa.ux
end
