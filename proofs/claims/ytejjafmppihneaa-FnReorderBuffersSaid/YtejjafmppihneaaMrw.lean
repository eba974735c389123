/- Slices whose elements are structs of several cells, one of them a slice of bytes: what such a slice that is read holds (Rq), what one of the call's own holds (Oe, Oq), whatever the struct. Condition: none. -/
import Derived.Test.YtejjafmppihneaaStw
import Derived.Test.YtejjafmppihneaaOwn
namespace Go.Proofs.Ytejjafmppihneaa.mrw
open Go.RowKit sl harn bx
set_option linter.unusedVariables false

/-- How an element lies in memory: its cells, one of them a slice of bytes. -/
structure Sh (α : Type) where
  T : TypeId
  s : Nat
  C : α → Option Addr → Nat → Nat → List Value
  B : α → List Int
  len : ∀ x A n c, (C x A n c).length = s
  one : ∀ x A n c, ∀ u ∈ C x A n c, u.oneCell' = true
  pos : 0 < s
  ne : T ≠ 5
/-- An element with the header of its slice. -/
structure El (α : Type) where
  x : α
  A : Option Addr
  n : Nat
  c : Nat

theorem rangeAt_same {w w' : World} {b o : Nat} {cs : List Value} (h : w.rangeAt b o cs) (hb : w'.heap[b]? = w.heap[b]?) : w'.rangeAt b o cs :=
  fun j v hj => (World.cell?_of_block (w := w) hb).trans (h j v hj)

section
variable {α : Type} (S : Sh α)
def cells (e : El α) : List Value := S.C e.x e.A e.n e.c
def flat (es : List (El α)) : List Value := es.flatMap (cells S)
theorem cells_len (e : El α) : (cells S e).length = S.s := S.len _ _ _ _
theorem flat_len (es : List (El α)) : (flat S es).length = es.length * S.s := by
  induction es with
  | nil => simp [flat]
  | cons e r ih =>
    have h1 : flat S (e :: r) = cells S e ++ flat S r := rfl
    rw [h1, List.length_append, cells_len, ih, List.length_cons, Nat.add_mul, Nat.one_mul, Nat.add_comm]
theorem flat_append (a b : List (El α)) : flat S (a ++ b) = flat S a ++ flat S b := by simp [flat]
theorem flat_one (es : List (El α)) : ∀ u ∈ flat S es, u.oneCell' = true := by
  intro u hu
  obtain ⟨e, _, h2⟩ := List.mem_flatMap.1 hu
  exact S.one _ _ _ _ u h2
theorem flat_at {es : List (El α)} {i : Nat} {e : El α} (h : es[i]? = some e) : ((flat S es).drop (i * S.s)).take S.s = cells S e := by
  induction es generalizing i with
  | nil => simp at h
  | cons f r ih =>
    have h1 : flat S (f :: r) = cells S f ++ flat S r := rfl
    cases i with
    | zero =>
      have : f = e := by simpa using h
      subst this
      rw [h1, Nat.zero_mul, List.drop_zero, List.take_append_of_le_length (by rw [cells_len]; omega), List.take_of_length_le (by rw [cells_len]; omega)]
    | succ i =>
      have h2 : r[i]? = some e := by simpa using h
      rw [h1, Nat.add_mul, Nat.one_mul, List.drop_append, List.drop_eq_nil_of_le (by rw [cells_len]; omega), List.nil_append, cells_len, Nat.add_sub_cancel]
      exact ih h2
theorem flat_cell {es : List (El α)} {i : Nat} {e : El α} (h : es[i]? = some e) {j : Nat} {v : Value} (hv : (cells S e)[j]? = some v) : (flat S es)[i * S.s + j]? = some v := by
  have hj : j < S.s := by have := (List.getElem?_eq_some_iff.1 hv).1; rwa [cells_len] at this
  rw [← flat_at S h, List.getElem?_take, if_pos hj, List.getElem?_drop] at hv
  exact hv
theorem flat_take (es : List (El α)) (k : Nat) : (flat S es).take (k * S.s) = flat S (es.take k) := by
  rcases Nat.lt_or_ge k es.length with h | h
  · conv => lhs; rw [← List.take_append_drop k es, flat_append]
    rw [List.take_append_of_le_length (by rw [flat_len, List.length_take, Nat.min_eq_left (by omega)]; omega), List.take_of_length_le (by rw [flat_len, List.length_take, Nat.min_eq_left (by omega)]; omega)]
  · rw [List.take_of_length_le h, List.take_of_length_le (by rw [flat_len]; exact Nat.mul_le_mul_right _ h)]
theorem flat_drop (es : List (El α)) (k : Nat) : (flat S es).drop (k * S.s) = flat S (es.drop k) := by
  rcases Nat.lt_or_ge k es.length with h | h
  · have e : (flat S (es.take k)).length = k * S.s := by rw [flat_len, List.length_take, Nat.min_eq_left (by omega)]
    conv => lhs; rw [← List.take_append_drop k es, flat_append]
    rw [List.drop_append, e, List.drop_eq_nil_of_le (by omega), Nat.sub_self, List.drop_zero, List.nil_append]
  · rw [List.drop_eq_nil_of_le h, List.drop_eq_nil_of_le (by rw [flat_len]; exact Nat.mul_le_mul_right _ h)]; rfl

/-- An element that is read at a place. -/
def At (w : World) (lo hi b o : Nat) (x : α) : Prop := ∃ A n c, w.rangeAt b o (S.C x A n c) ∧ Rd .u8 w lo hi A n c (S.B x)
/-- A slice of elements that is read. -/
def Rq (w : World) (lo hi : Nat) (A : Option Addr) (n cap : Nat) (xs : List α) : Prop :=
  xs.length = n ∧ n ≤ cap ∧ cap ≤ maxLen ∧ hi ≤ w.heap.size ∧ (0 < n → ∃ b off, A = some ⟨b, off, none⟩ ∧ lo ≤ b ∧ b < hi ∧ ∀ i x, xs[i]? = some x → At S w lo hi b (off + i * S.s) x)
/-- Their slices do not lie in one block. -/
def Ds (es : List (El α)) : Prop := es.Pairwise fun e f => ∀ a b, e.A = some a → f.A = some b → a.block ≠ b.block
/-- A slice of elements of the call's own, with the headers of their slices. -/
structure Oe (w : World) (lo hi : Nat) (A : Option Addr) (n cap : Nat) (es : List (El α)) : Prop where
  row : w.ownsRow lo S.T S.s (.slice A n cap) n (flat S es)
  body : ∀ e ∈ es, Ow 5 .u8 w lo hi e.A e.n e.c (S.B e.x)
  ds : Ds es
  hi_ : hi ≤ w.heap.size
  lt : ∀ g o, A = some ⟨g, o, none⟩ → g < hi
def Oq (w : World) (lo hi : Nat) (A : Option Addr) (n cap : Nat) (xs : List α) : Prop := ∃ es, es.map (·.x) = xs ∧ Oe S w lo hi A n cap es
end

section
variable {α : Type} {S : Sh α} {w w' : World} {lo hi n cap : Nat} {A : Option Addr} {xs : List α} {es : List (El α)}
theorem At.same {b o : Nat} {x : α} (h : At S w lo hi b o x) (hl : lo ≤ b) (hh : b < hi) (hs : w.heap.size ≤ w'.heap.size) (hb : ∀ b, lo ≤ b → b < hi → w'.heap[b]? = w.heap[b]?) : At S w' lo hi b o x := by
  obtain ⟨A, n, c, h1, h2⟩ := h
  exact ⟨A, n, c, rangeAt_same h1 (hb b hl hh), h2.same hs hb⟩
theorem Rq.len (h : Rq S w lo hi A n cap xs) : xs.length = n := h.1
theorem Rq.cap_ (h : Rq S w lo hi A n cap xs) : n ≤ cap ∧ cap ≤ 9223372036854775807 := ⟨h.2.1, by have := h.2.2.1; unfold maxLen at this; omega⟩
theorem Rq.hi_ (h : Rq S w lo hi A n cap xs) : hi ≤ w.heap.size := h.2.2.2.1
theorem Rq.at_ (h : Rq S w lo hi A n cap xs) {i : Nat} (hi' : i < n) : ∃ b off x, A = some ⟨b, off, none⟩ ∧ xs[i]? = some x ∧ lo ≤ b ∧ b < hi ∧ At S w lo hi b (off + i * S.s) x := by
  obtain ⟨b, off, e, h1, h2, h3⟩ := h.2.2.2.2 (by omega)
  have hl : i < xs.length := by rw [h.len]; exact hi'
  exact ⟨b, off, xs[i], e, List.getElem?_eq_getElem hl, h1, h2, h3 i _ (List.getElem?_eq_getElem hl)⟩
theorem Rq.same (h : Rq S w lo hi A n cap xs) (hs : w.heap.size ≤ w'.heap.size) (hb : ∀ b, lo ≤ b → b < hi → w'.heap[b]? = w.heap[b]?) : Rq S w' lo hi A n cap xs := by
  obtain ⟨h1, h2, h3, h4, h5⟩ := h
  refine ⟨h1, h2, h3, by omega, fun hn => ?_⟩
  obtain ⟨b, off, e, g1, g2, g3⟩ := h5 hn
  exact ⟨b, off, e, g1, g2, fun i x hx => (g3 i x hx).same g1 g2 hs hb⟩
theorem Rq.below (h : Rq S w lo hi A n cap xs) (hb : Below w.heap.size w w') : Rq S w' lo hi A n cap xs :=
  h.same hb.size fun b _ hlt => hb.block b (by have := h.hi_; omega)
theorem Rq.tch (h : Rq S w lo hi A n cap xs) {l r : Nat} (hb : Tch l r w w') (hd : hi ≤ l ∨ r ≤ lo) : Rq S w' lo hi A n cap xs :=
  h.same hb.size fun b h1 h2 => hb.block b (by have := h.hi_; omega) (by omega)
theorem Rq.nil (w : World) (A : Option Addr) (cap lo hi : Nat) (hc : cap ≤ maxLen) (hh : hi ≤ w.heap.size) : Rq S w lo hi A 0 cap [] :=
  ⟨rfl, by omega, hc, hh, fun h => absurd h (by omega)⟩

theorem Oe.len (h : Oe S w lo hi A n cap es) : es.length = n := by
  have h1 := h.row.1
  rw [flat_len] at h1
  exact Nat.eq_of_mul_eq_mul_right S.pos h1
theorem Oe.form (h : Oe S w lo hi A n cap es) : (A = none ∧ n = 0 ∧ cap = 0) ∨ ∃ g cur, A = some ⟨g, 0, none⟩ ∧ lo ≤ g ∧ g < hi ∧ w.heap[g]? = some (.cells cur S.T (0, 0)) ∧ n ≤ cap ∧ cap ≤ maxLen ∧ cur.size = cap * S.s ∧ cur.toList.take (n * S.s) = flat S es := by
  rcases h.row.2 with ⟨e, h0⟩ | ⟨g, c, cur, e, h1, h2, h3, h4, h5, h6⟩
  · injection e with e1 e2 e3
    exact Or.inl ⟨e1, e2, e3⟩
  · injection e with e1 e2 e3
    subst e3
    exact Or.inr ⟨g, cur, e1, h1, h.lt g 0 e1, h2, h3, h4, h5, h6⟩
theorem Oe.at_ (h : Oe S w lo hi A n cap es) {i : Nat} {e : El α} (he : es[i]? = some e) : ∃ g, A = some ⟨g, 0, none⟩ ∧ lo ≤ g ∧ g < hi ∧ w.rangeAt g (i * S.s) (cells S e) := by
  have hi' : i < es.length := (List.getElem?_eq_some_iff.1 he).1
  rw [h.len] at hi'
  rcases h.form with ⟨_, h0, _⟩ | ⟨g, cur, rfl, h1, h2, h3, h4, h5, h6, h7⟩
  · omega
  · refine ⟨g, rfl, h1, h2, fun j v hv => ?_⟩
    have hj : j < S.s := by have := (List.getElem?_eq_some_iff.1 hv).1; rwa [cells_len] at this
    have hlt : i * S.s + j < n * S.s := by
      have := Nat.mul_le_mul_right S.s (show i + 1 ≤ n by omega)
      rw [Nat.add_mul, Nat.one_mul] at this
      omega
    rw [h.row.cellAt (i * S.s + j) hlt]
    exact flat_cell S he hv
theorem Oe.rq (h : Oe S w lo hi A n cap es) : Rq S w lo hi A n cap (es.map (·.x)) := by
  have hl := h.len
  rcases h.form with ⟨rfl, rfl, rfl⟩ | ⟨g, cur, rfl, h1, h2, h3, h4, h5, h6, h7⟩
  · exact ⟨by simpa using hl, Nat.le_refl _, by unfold maxLen; omega, h.hi_, fun h => absurd h (by omega)⟩
  · refine ⟨by simpa using hl, h4, h5, h.hi_, fun _ => ⟨g, 0, rfl, h1, h2, fun i x hx => ?_⟩⟩
    rw [List.getElem?_map] at hx
    cases he : es[i]? with
    | none => rw [he] at hx; cases hx
    | some e =>
      rw [he] at hx
      obtain rfl : e.x = x := by simpa using hx
      obtain ⟨g', e1, _, _, hr⟩ := h.at_ he
      injection e1 with e1; injection e1 with e1 _
      subst e1
      refine ⟨e.A, e.n, e.c, by rw [Nat.zero_add]; exact hr, (h.body e (List.mem_of_getElem? he)).rd⟩
theorem Oe.same (h : Oe S w lo hi A n cap es) (hs : w.heap.size ≤ w'.heap.size) (hb : ∀ b, lo ≤ b → b < hi → w'.heap[b]? = w.heap[b]?) : Oe S w' lo hi A n cap es := by
  refine ⟨⟨h.row.1, ?_⟩, fun e he => (h.body e he).same hs hb, h.ds, by have := h.hi_; omega, h.lt⟩
  rcases h.row.2 with h2 | ⟨g, c, cur, e, g1, g2, g3⟩
  · exact Or.inl h2
  · injection e with e1 e2 e3
    refine Or.inr ⟨g, c, cur, by rw [e1, e3], g1, ?_, g3⟩
    rw [hb g g1 (h.lt g 0 e1)]; exact g2
theorem Oe.below (h : Oe S w lo hi A n cap es) (hb : Below w.heap.size w w') : Oe S w' lo hi A n cap es :=
  h.same hb.size fun b _ hlt => hb.block b (by have := h.hi_; omega)
theorem Oe.up (h : Oe S w lo hi A n cap es) : Oe S w lo w.heap.size A n cap es :=
  ⟨h.row, fun e he => (h.body e he).up, h.ds, Nat.le_refl _, fun g o e => by have := h.lt g o e; have := h.hi_; omega⟩
theorem row_down {v : Value} {lo2 : Nat} {T : TypeId} {s m : Nat} {l : List Value} (h : w.ownsRow lo T s v m l) (hl : lo2 ≤ lo) : w.ownsRow lo2 T s v m l := by
  refine ⟨h.1, ?_⟩
  rcases h.2 with h2 | ⟨g, c, cur, e, g1, g2⟩
  · exact Or.inl h2
  · exact Or.inr ⟨g, c, cur, e, by omega, g2⟩
theorem Oe.down {lo2 : Nat} (h : Oe S w lo hi A n cap es) (hl : lo2 ≤ lo) : Oe S w lo2 hi A n cap es :=
  ⟨row_down h.row hl, fun e he => (h.body e he).down hl, h.ds, h.hi_, h.lt⟩
theorem Oe.nil_ (S : Sh α) (w : World) (lo hi : Nat) (hh : hi ≤ w.heap.size) : Oe S w lo hi none 0 0 [] :=
  ⟨⟨by simp [flat], .inl ⟨rfl, rfl⟩⟩, fun _ h => (by cases h), List.Pairwise.nil, hh, fun _ _ e => by cases e⟩
theorem Oe.empty (S : Sh α) (w : World) : Oe S (w.alloc (.cells #[] S.T)) w.heap.size (w.heap.size + 1) (some ⟨w.heap.size, 0, none⟩) 0 0 [] :=
  ⟨⟨by simp [flat], .inr ⟨w.heap.size, 0, #[], rfl, Nat.le_refl _, heap_alloc_new w _, Nat.le_refl _, by unfold maxLen; omega, by simp, by simp [flat]⟩⟩, fun _ h => (by cases h), List.Pairwise.nil, by simp, fun g o e => by
    injection e with e; injection e with e _; omega⟩
/-- A row of zero elements of which none is told. -/
theorem Oe.made (S : Sh α) (w : World) (z : Array Value) (m : Nat) (hm : m ≤ maxLen) (hz : z.size = m * S.s) : Oe S (w.alloc (.cells z S.T)) w.heap.size (w.heap.size + 1) (some ⟨w.heap.size, 0, none⟩) 0 m [] :=
  ⟨⟨by simp [flat], .inr ⟨w.heap.size, m, z, rfl, Nat.le_refl _, heap_alloc_new w _, Nat.zero_le _, hm, hz, by simp [flat]⟩⟩, fun _ h => (by cases h), List.Pairwise.nil, by simp, fun g o e => by
    injection e with e; injection e with e _; omega⟩
/-- A new element whose slice lies above the others. -/
theorem Ds.push (hd : Ds es) (hb : ∀ e ∈ es, Ow 5 .u8 w lo hi e.A e.n e.c (S.B e.x)) {f : El α} {lo2 hi2 : Nat} {w2 : World} {zs : List Int} (hf : Ow 5 .u8 w2 lo2 hi2 f.A f.n f.c zs) (h : hi ≤ lo2) : Ds (es ++ [f]) := by
  refine List.pairwise_append.2 ⟨hd, List.pairwise_singleton _ _, fun e he f' hf' a b ha hb' => ?_⟩
  obtain rfl : f' = f := by simpa using hf'
  rcases (hb e he).form with ⟨h0, _⟩ | ⟨g, cur, h0, _, h2, _⟩
  · rw [h0] at ha; cases ha
  · rcases hf.form with ⟨k0, _⟩ | ⟨g', cur', k0, k1, _⟩
    · rw [k0] at hb'; cases hb'
    · rw [h0] at ha; rw [k0] at hb'
      obtain rfl := Option.some.inj ha
      obtain rfl := Option.some.inj hb'
      show g ≠ g'
      omega
/-- Elements appended. -/
theorem Oe.app {P : Program} (t ty : TypeId) (i : TypeInfo) (z : Value) (h1 : P.underlying t = some (.slice S.T)) (h2 : P.info? S.T = some i) (h3 : i.zero = some z) (h4 : i.size = S.s) (h5 : i.bytes ≤ 128) (h6 : z.cells.size = S.s)
    (h : Oe S w lo hi A n cap es) (ad : Addr) (m c : Nat) (fs : List (El α)) (hm : fs.length = m) (hsrc : ∀ j u, (flat S fs)[j]? = some u → w.cell? (ad.add j) = some u)
    (hb : ∀ f ∈ fs, ∃ lo2 hi2, lo ≤ lo2 ∧ Ow 5 .u8 w lo2 hi2 f.A f.n f.c (S.B f.x)) (hd : Ds (es ++ fs)) (hn : n + m ≤ 1073741824) (hlo : lo ≤ w.heap.size) :
    ∃ A' cap' w', (Builtin.append_ #[t, t] ty #[.slice A n cap, .slice (some ad) m c]).run P w = .ok (.slice A' (n + m) cap') w' ∧ Oe S w' lo w'.heap.size A' (n + m) cap' (es ++ fs) ∧ Below lo w w' := by
  have hb8 : (n + m) * i.bytes ≤ 140737488355328 := by
    have := Nat.mul_le_mul hn h5
    omega
  obtain ⟨v', w', hrun, g1, g2, _, g3⟩ := run_append_own_at (P := P) w lo t ty S.T i z S.s i.bytes h1 h2 h3 h4 rfl h6 S.pos _ n _ h.row ad m c (flat S fs) (by rw [flat_len, hm]) hsrc (flat_one S fs) (by unfold maxLen; omega) hb8 hlo
  rw [← flat_append] at g1
  have hkeep : ∀ (f : El α) (lo2 hi2 : Nat), Ow 5 .u8 w lo2 hi2 f.A f.n f.c (S.B f.x) → Ow 5 .u8 w' lo2 hi2 f.A f.n f.c (S.B f.x) := by
    intro f lo2 hi2 hf
    rcases hf.form with ⟨e1, e2, e3⟩ | ⟨g, cur, e1, k1, k2, k3, k4⟩
    · have hz : S.B f.x = [] := List.eq_nil_of_length_eq_zero (by rw [hf.len, e2])
      rw [e1, e2, e3, hz]
      exact Ow.nil_ _ _ _ _ _ (by have := hf.hi_; have := g2.size; omega)
    · obtain ⟨⟨q1, q2⟩, q3, q4, q5⟩ := hf
      refine ⟨⟨q1, ?_⟩, q3, by have := g2.size; omega, q5⟩
      rcases q2 with q2 | ⟨g', c', cur', e, r1, r2, r3⟩
      · exact Or.inl q2
      · refine Or.inr ⟨g', c', cur', e, r1, ?_, r3⟩
        rw [g2.block g' (lt_of_block r2) ?_]
        · exact r2
        · intro heq
          rcases h.form with ⟨e0, _⟩ | ⟨gr, curr, e0, _, _, s3, _⟩
          · rw [e0] at heq; simp [Value.ownBlock] at heq
          · rw [e0] at heq
            simp only [Value.ownBlock, Option.some.injEq] at heq
            subst heq
            rw [r2] at s3
            simp only [Option.some.injEq, Obj.cells.injEq] at s3
            exact S.ne s3.2.1.symm
  have hB : Below lo w w' := (Below.refl _ _).grown g2 hlo fun q hq => by
    rcases h.form with ⟨e0, _⟩ | ⟨gr, curr, e0, s1, _⟩
    · rw [e0] at hq; simp [Value.ownBlock] at hq
    · rw [e0] at hq; simp [Value.ownBlock] at hq; omega
  have hv : ∃ A' cap', v' = .slice A' (n + m) cap' ∧ ∀ g o, A' = some ⟨g, o, none⟩ → g < w'.heap.size := by
    rcases g1.2 with ⟨rfl, h0⟩ | ⟨g, c, cur, rfl, _, k2, _⟩
    · exact ⟨none, 0, by rw [h0], fun _ _ e => by cases e⟩
    · exact ⟨_, c, rfl, fun g' o e => by injection e with e; injection e with e _; subst e; exact lt_of_block k2⟩
  obtain ⟨A', cap', rfl, hlt⟩ := hv
  refine ⟨A', cap', w', hrun, ⟨g1, fun e he => ?_, hd, Nat.le_refl _, hlt⟩, hB⟩
  rcases List.mem_append.1 he with he | he
  · exact (hkeep e lo hi (h.body e he)).up
  · obtain ⟨lo2, hi2, hl, ho⟩ := hb e he
    exact ((hkeep e lo2 hi2 ho).up).down hl
end
end Go.Proofs.Ytejjafmppihneaa.mrw
