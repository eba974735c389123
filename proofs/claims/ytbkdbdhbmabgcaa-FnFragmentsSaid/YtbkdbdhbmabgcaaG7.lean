/- Merged texts of this seat. Rbm: The body of one element of a row of the call's own grows; the element is stored anew; lists that share no block with a slice. Condition: none. | Us19: Remembered frames as values of the harness. Condition: none. | Snm: Remembered frames: what the functions of chapter 19 say of lists; slices of them in memory, appends onto them. Condition: none. -/
import Derived.OwnWalk
import Derived.Test.YtbkdbdhbmabgcaaG5
import Derived.Test.YtbkdbdhbmabgcaaG6
section
namespace Go.Proofs.Ytbkdbdhbmabgcaa.fr
open Go.RowKit sl harn bx mrw drk stw
set_option linter.unusedVariables false
set_option linter.unusedSimpArgs false

section
variable {E : TypeId} {k : IntKind} {w w' : World} {lo hi n cap : Nat} {A : Option Addr} {zs : List Int}
theorem own_blk (A : Option Addr) (n c : Nat) : (Value.slice A n c).ownBlock = blkOf A := by cases A <;> rfl
/-- An append onto a slice of numbers of the call's own: the old one stays; only its block may change. -/
theorem num_more {P : Program} (t ty E : TypeId) (i : TypeInfo) (z : Value) (k : IntKind) (h1 : P.underlying t = some (.slice E)) (h2 : P.info? E = some i) (h3 : i.zero = some z) (h4 : i.size = 1) (h5 : i.bytes ≤ 8) (h6 : z.cells.size = 1)
    {w : World} {lo hi lo2 hi2 n cap m c : Nat} {A B : Option Addr} {zs ys : List Int} (ho : Ow E k w lo hi A n cap zs) (hr : Rd k w lo2 hi2 B m c ys) (hn : n + m ≤ 1073741824) (hlo : lo ≤ w.heap.size) :
    ∃ A' cap' w', (Builtin.append_ #[t, t] ty #[.slice A n cap, .slice B m c]).run P w = .ok (.slice A' (n + m) cap') w' ∧ Ow E k w' lo w'.heap.size A' (n + m) cap' (zs ++ ys) ∧ w.grownBy w' (blkOf A) ∧ Ow E k w' lo hi A n cap zs ∧ (blkOf A' = blkOf A ∨ ∀ q, blkOf A' = some q → w.heap.size ≤ q) := by
  have hwf : Wf k (zs ++ ys) := ho.wf.append hr.wf
  cases B with
  | none =>
    have hm : m = 0 := by
      rcases Nat.eq_zero_or_pos m with h | h
      · exact h
      · obtain ⟨b, off, e, _⟩ := hr.at_ h; cases e
    subst hm
    have hy : ys = [] := List.eq_nil_of_length_eq_zero hr.len
    subst hy
    refine ⟨A, cap, w, ?_, by simpa using ho.up, grown_below (Below.refl _ _) _, ho, .inl rfl⟩
    rcases ho.form with ⟨rfl, rfl, rfl⟩ | ⟨g, cur, rfl, _, _, _, hnc, _⟩
    · simp [Builtin.append_, run_underlying h1, sizeOf, typeInfo, h2, Builtin.lenOf, Builtin.firstCells]
    · simp [Builtin.append_, run_underlying h1, sizeOf, typeInfo, h2, Builtin.lenOf, Builtin.firstCells, hnc, storeCells]
  | some ad =>
    have hcells : ∀ j u, (ys.map (Value.int k))[j]? = some u → w.cell? (ad.add j) = some u := by
      intro j u hu
      have hj : j < ys.length := by
        have := (List.getElem?_eq_some_iff.1 hu).1
        simpa using this
      have hl := hr.len
      obtain ⟨b, off, e, _, _, hc⟩ := hr.at_ (i := j) (by omega)
      injection e with e
      subst e
      have e2 : (⟨b, off, none⟩ : Addr).add j = ⟨b, off + j, none⟩ := by unfold Addr.add; split <;> simp_all
      rw [e2, hc]
      rw [List.getElem?_map, List.getElem?_eq_getElem hj] at hu
      rw [List.getD_eq_getElem?_getD, List.getElem?_eq_getElem hj]
      simpa using hu
    have hb8 : (n + m) * i.bytes ≤ 140737488355328 := by
      have := Nat.mul_le_mul hn h5
      omega
    obtain ⟨v', w', hrun, g1, g2, _, g3⟩ := run_append_own_at (P := P) w lo t ty E i z 1 i.bytes h1 h2 h3 h4 rfl h6 (by omega) _ n _ ho.1 ad m c (ys.map (Value.int k)) (by simpa using hr.len) hcells (one_cells k ys) (by unfold maxLen; omega) hb8 hlo
    rw [← List.map_append] at g1
    obtain ⟨A', cap', rfl, hO⟩ := Ow.of_own g1 hwf
    rw [own_blk] at g2
    have same : ∀ {v : Value} {u : World}, (Builtin.append_ #[t, t] ty #[.slice A n cap, .slice (some ad) m c]).run P w = .ok v u → w' = u := by
      intro v u hu
      rw [hrun] at hu
      injection hu
    have hblk : blkOf A' = blkOf A ∨ ∀ q, blkOf A' = some q → w.heap.size ≤ q := by
      rw [own_blk, own_blk] at g3
      rcases g3 with g3 | g3
      · exact .inl g3
      · exact .inr fun q hq => by rw [g3] at hq; injection hq with hq; omega
    refine ⟨A', cap', w', hrun, hO, g2, ?_, hblk⟩
    rcases ho.form with ⟨rfl, rfl, rfl⟩ | ⟨g, cur, rfl, hg1, hg2, hcur, hnc, hcm, hcs, htake⟩
    · have hz : zs = [] := List.eq_nil_of_length_eq_zero ho.len
      subst hz
      exact Ow.nil_ _ _ _ _ _ (by have := ho.hi_; have := g2.size; omega)
    · by_cases hroom : n + m ≤ cap
      · obtain ⟨w2, hr2, q1, q2⟩ := run_append_fits (P := P) w lo t ty E i 1 h1 h2 h4 g n cap (zs.map (Value.int k)) ho.1 ad m c (ys.map (Value.int k)) (by simpa using hr.len) hcells (one_cells k ys) hroom
        obtain rfl := same hr2
        obtain ⟨cur', k1, k2, k3, k4, k5, k6⟩ := mrw.row_at q1
        refine ⟨⟨ho.1.1, .inr ⟨g, cap, cur', rfl, k2, k1, hnc, hcm, k5, ?_⟩⟩, ho.wf, by have := ho.hi_; have := g2.size; omega, ho.2.2.2⟩
        have := congrArg (List.take (n * 1)) k6
        rw [List.take_take, Nat.min_eq_left (Nat.mul_le_mul_right _ (by omega)), List.take_append_of_le_length (by rw [ho.1.1]; exact Nat.le_refl _)] at this
        exact this.trans (List.take_of_length_le (by rw [ho.1.1]; exact Nat.le_refl _))
      · have holds : ∀ j u, (zs.map (Value.int k))[j]? = some u → w.cell? ((⟨g, 0, none⟩ : Addr).add j) = some u := ho.1.cells (g := g) rfl
        have hr2 := run_append_grow (P := P) w t ty E i z h1 h2 h3 ⟨g, 0, none⟩ n cap (zs.map (Value.int k)) (by rw [h4]; exact ho.1.1) holds ad m c (ys.map (Value.int k)) (by rw [h4]; simpa using hr.len) hcells (by omega) (by omega) (growslice_fits (by omega) hb8)
        rw [same hr2]
        exact ho.below ⟨rfl, rfl, rfl, by simp, fun k hk => heap_alloc_old w.drew _ hk⟩
/-- The walk's form. -/
theorem wpList_num {P : Program} (w : World) {ops : Array Oper} {rest : List Oper} {o : Oper} {a : Act} {Q : Exit → Act → World → Prop} (hg : o.guard = none) (s x : Operand) (t : TypeId)
    (hop : o.op = .call { callee := .builtin .append, args := #[s, x], argTypes := #[t, t] })
    (E : TypeId) (i : TypeInfo) (z : Value) (k : IntKind) (h1 : P.underlying t = some (.slice E)) (h2 : P.info? E = some i) (h3 : i.zero = some z) (h4 : i.size = 1) (h5 : i.bytes ≤ 8) (h6 : z.cells.size = 1)
    {lo hi lo2 hi2 n cap m c : Nat} {A B : Option Addr} {zs ys : List Int} (hs : a.eval s = .slice A n cap) (hx : a.eval x = .slice B m c) (ho : Ow E k w lo hi A n cap zs) (hr : Rd k w lo2 hi2 B m c ys) (hn : n + m ≤ 1073741824) (hlo : lo ≤ w.heap.size)
    (hK : ∀ A' cap' w', Ow E k w' lo w'.heap.size A' (n + m) cap' (zs ++ ys) → w.grownBy w' (blkOf A) → Ow E k w' lo hi A n cap zs → (blkOf A' = blkOf A ∨ ∀ q, blkOf A' = some q → w.heap.size ≤ q) → wpList P ops Q rest (a.put o.dst (.slice A' (n + m) cap')) w') : wpList P ops Q (o :: rest) a w := by
  refine wpList_plain hg fun K hK' => ?_
  obtain ⟨A', cap', w', hrun, g1, g2, g3, g4⟩ := num_more (P := P) t o.type E i z k h1 h2 h3 h4 h5 h6 ho hr hn hlo
  unfold Oper.wp execOp
  simp only [hop, resolve, invoke, builtin, Sem.run_bind, Sem.run_pure, Result.andThen_ok, List.map_toArray, List.map_cons, List.map_nil, hs, hx, hrun]
  exact hK' _ _ (hK A' cap' w' g1 g2 g3 g4)
end
section
variable {α : Type} {S : Sh α} {w w' : World} {lo hi n cap : Nat} {A : Option Addr} {es : List (El α)}
/-- A row beside the body of its element number i, whose block changes while the body stays. -/
theorem oe_beside (h : Oe S w lo hi A n cap es) {i : Nat} {e : El α} (he : es[i]? = some e) (hg : w.grownBy w' (blkOf e.A)) (hb : Ow 5 .u8 w' lo hi e.A e.n e.c (S.B e.x)) : Oe S w' lo hi A n cap es := by
  have hem := List.mem_of_getElem? he
  have hbe := h.body e hem
  refine ⟨⟨h.row.1, ?_⟩, fun f hf => ?_, h.ds, by have := h.hi_; have := hg.size; omega, h.lt⟩
  · rcases h.row.2 with q2 | ⟨g, c, cur, e1, r1, r2, r3⟩
    · exact .inl q2
    · refine .inr ⟨g, c, cur, e1, r1, ?_, r3⟩
      rw [hg.block g (lt_of_block r2) ?_]
      · exact r2
      · intro heq
        rcases hbe.form with ⟨e0, _⟩ | ⟨q, cur2, e0, _, _, q3, _⟩
        · rw [e0] at heq; cases heq
        · rw [e0] at heq
          obtain rfl : g = q := by simpa using heq
          rw [r2] at q3
          injection q3 with q4
          injection q4 with _ q5
          exact S.ne q5
  · obtain ⟨j, hj⟩ := List.mem_iff_getElem?.1 hf
    by_cases hij : i = j
    · subst hij
      obtain rfl : e = f := Option.some.inj (he.symm.trans hj)
      exact hb
    · have hbf := h.body f hf
      refine ux.ow_as hbf hg.size fun b hbb => hg.block b (by have := (ux.ow_in hbf b hbb).2; have := h.hi_; omega) fun heq => ?_
      cases hA : e.A with
      | none => rw [hA] at heq; cases heq
      | some a =>
        cases hA2 : f.A with
        | none => rw [hA2] at hbb; cases hbb
        | some a2 =>
          rw [hA] at heq; rw [hA2] at hbb
          have k1 : b = a.block := by simpa using heq
          have k2 : b = a2.block := by simpa [ux.blks] using hbb
          have hjl : j < es.length := (List.getElem?_eq_some_iff.1 hj).1
          have hil : i < es.length := (List.getElem?_eq_some_iff.1 he).1
          have hei : es[i] = e := (List.getElem?_eq_some_iff.1 he).2
          have hfj : es[j] = f := (List.getElem?_eq_some_iff.1 hj).2
          have hp := List.pairwise_iff_getElem.1 h.ds
          rcases Nat.lt_or_gt_of_ne hij with hlt | hlt
          · exact hp i j hil hjl hlt a a2 (by rw [hei]; exact hA) (by rw [hfj]; exact hA2) (k1.symm.trans k2)
          · exact hp j i hjl hil hlt a2 a (by rw [hfj]; exact hA2) (by rw [hei]; exact hA) (k2.symm.trans k1)
/-- No block of a body is the block of the slice B. -/
def Dj (es : List (El α)) (B : Option Addr) : Prop := ∀ e ∈ es, ∀ a b, e.A = some a → B = some b → a.block ≠ b.block
theorem dj_hi (h : Oe S w lo hi A n cap es) {B : Option Addr} (hB : ∀ q, blkOf B = some q → hi ≤ q) : Dj es B := by
  intro e he a b ha hb hab
  have h1 := ux.ow_in (h.body e he) a.block (by rw [ha]; simp [ux.blks])
  have h2 := hB b.block (by rw [hb]; rfl)
  omega
theorem flat_upd {l : List (El α)} {i : Nat} (f : El α) (hi' : i < l.length) : flat S (l.set i f) = flat S (l.take i) ++ cells S f ++ flat S (l.drop (i + 1)) := by
  rw [List.set_eq_take_append_cons_drop, if_pos hi', flat_append, List.append_assoc]
  rfl
/-- An element stored anew. -/
theorem oe_upd {g i : Nat} (h : Oe S w lo hi (some ⟨g, 0, none⟩) n cap es) (hin : i < n) (f : El α) {lo2 hi2 : Nat} (hf : Ow 5 .u8 w lo2 hi2 f.A f.n f.c (S.B f.x)) (hl : lo ≤ lo2)
    (hd : ∀ (j : Nat) (e : El α), j ≠ i → es[j]? = some e → ∀ a b, e.A = some a → f.A = some b → a.block ≠ b.block) :
    Oe S (w.setCells g (i * S.s) (cells S f)) lo w.heap.size (some ⟨g, 0, none⟩) n cap (es.set i f) := by
  obtain ⟨cur, h1, h2, h3, h4, h5, h6⟩ := mrw.row_at h.row
  have hgl := h.lt g 0 rfl
  have hlen := h.len
  have hle : i * S.s + S.s ≤ n * S.s := by
    have := Nat.mul_le_mul_right S.s (show i + 1 ≤ n by omega)
    rw [Nat.add_mul, Nat.one_mul] at this
    exact this
  have hcn : n * S.s ≤ cap * S.s := Nat.mul_le_mul_right S.s h3
  have hcap : i * S.s + S.s ≤ cur.size := by omega
  have hsz := mrw.size_setCells g (cells S f) (i * S.s) w
  have kp : ∀ (e : El α) (l r : Nat), Ow 5 .u8 w l r e.A e.n e.c (S.B e.x) → Ow 5 .u8 (w.setCells g (i * S.s) (cells S f)) l r e.A e.n e.c (S.B e.x) := by
    intro e l r he
    obtain ⟨⟨q1, q2⟩, q3, q4, q5⟩ := he
    refine ⟨⟨q1, ?_⟩, q3, by omega, q5⟩
    rcases q2 with q2 | ⟨g', c', cur', e', r1, r2, r3⟩
    · exact Or.inl q2
    · refine Or.inr ⟨g', c', cur', e', r1, ?_, r3⟩
      rw [mrw.heap_setCells_ne (fun heq => by
        subst heq
        rw [h1] at r2
        simp only [Option.some.injEq, Obj.cells.injEq] at r2
        exact S.ne r2.2.1)]
      exact r2
  refine ⟨⟨by rw [flat_len, List.length_set, hlen], .inr ⟨g, cap, _, rfl, h2, mrw.heap_setCells_same _ _ _ _ h1, h3, h4, by rw [mrw.lay_size]; exact h5, ?_⟩⟩, fun e he => ?_, ?_, by omega, fun g' o e => by injection e with e; injection e with e _; subst e; have := h.hi_; omega⟩
  · have hct : (cur.toList.take (i * S.s)).length = i * S.s := by rw [List.length_take]; simp; omega
    rw [mrw.lay_list _ _ _ (by rw [cells_len]; exact hcap), cells_len, flat_upd f (by omega), ← flat_take, ← flat_drop, ← h6, List.take_take, Nat.min_eq_left (by omega), List.drop_take, Nat.add_mul, Nat.one_mul]
    rw [List.take_append, List.take_of_length_le (by rw [List.length_append, hct, cells_len]; omega), List.length_append, hct, cells_len]
  · rw [← hsz]
    obtain ⟨j, hj⟩ := List.mem_iff_getElem?.1 he
    by_cases hij : i = j
    · subst hij
      rw [List.getElem?_set_self (by omega)] at hj
      obtain rfl : f = e := Option.some.inj hj
      exact (kp f lo2 hi2 hf).up.down hl
    · rw [List.getElem?_set_ne hij] at hj
      exact (kp e lo hi (h.body e (List.mem_of_getElem? hj))).up
  · refine List.pairwise_iff_getElem.2 fun p q hp hq hpq a b ha hb => ?_
    have hds := List.pairwise_iff_getElem.1 h.ds
    have hp' : p < es.length := by simpa using hp
    have hq' : q < es.length := by simpa using hq
    by_cases h1 : p = i
    · subst h1
      rw [List.getElem_set_self] at ha
      rw [List.getElem_set_ne (by omega)] at hb
      exact fun hab => hd q _ (by omega) (List.getElem?_eq_getElem hq') b a hb ha hab.symm
    · rw [List.getElem_set_ne (fun e => h1 e.symm)] at ha
      by_cases h2 : q = i
      · subst h2
        rw [List.getElem_set_self] at hb
        exact hd p _ h1 (List.getElem?_eq_getElem hp') a b ha hb
      · rw [List.getElem_set_ne (fun e => h2 e.symm)] at hb
        exact hds p q hp' hq' hpq a b ha hb
/-- What a grown body shares with the others' bodies: nothing. -/
theorem dj_grown (h : Oe S w lo hi A n cap es) {i : Nat} {e : El α} (he : es[i]? = some e) {B : Option Addr} (hB : blkOf B = blkOf e.A ∨ ∀ q, blkOf B = some q → w.heap.size ≤ q) :
    ∀ (j : Nat) (f : El α), j ≠ i → es[j]? = some f → ∀ a b, f.A = some a → B = some b → a.block ≠ b.block := by
  intro j f hji hj a b ha hb hab
  have hfm := List.mem_of_getElem? hj
  have hin := ux.ow_in (h.body f hfm) a.block (by rw [ha]; simp [ux.blks])
  rcases hB with hB | hB
  · cases hA : e.A with
    | none => rw [hA, hb] at hB; cases hB
    | some c =>
      rw [hA, hb] at hB
      have k1 : b.block = c.block := by simpa using hB
      have hjl : j < es.length := (List.getElem?_eq_some_iff.1 hj).1
      have hil : i < es.length := (List.getElem?_eq_some_iff.1 he).1
      have hei : es[i] = e := (List.getElem?_eq_some_iff.1 he).2
      have hfj : es[j] = f := (List.getElem?_eq_some_iff.1 hj).2
      have hp := List.pairwise_iff_getElem.1 h.ds
      rcases Nat.lt_or_gt_of_ne hji with hlt | hlt
      · exact hp j i hjl hil hlt a c (by rw [hfj]; exact ha) (by rw [hei]; exact hA) (hab.trans k1)
      · exact hp i j hil hjl hlt c a (by rw [hei]; exact hA) (by rw [hfj]; exact ha) (k1.symm.trans hab.symm)
  · have h2 := hB b.block (by rw [hb]; rfl)
    have := h.hi_
    omega
theorem dj_erase {i : Nat} {B : Option Addr} (hd : ∀ (j : Nat) (f : El α), j ≠ i → es[j]? = some f → ∀ a b, f.A = some a → B = some b → a.block ≠ b.block) : Dj (es.eraseIdx i) B := by
  intro e he
  obtain ⟨j, hj⟩ := List.mem_iff_getElem?.1 he
  rw [List.getElem?_eraseIdx] at hj
  split at hj
  · exact hd j e (by omega) hj
  · exact hd (j + 1) e (by omega) hj
theorem flat_load {i : Nat} {e : El α} (h : Oe S w lo hi A n cap es) (he : es[i]? = some e) : ∃ g, A = some ⟨g, 0, none⟩ ∧ lo ≤ g ∧ g < hi ∧ w.rangeAt g (i * S.s) (cells S e) := h.at_ he
end
end Go.Proofs.Ytbkdbdhbmabgcaa.fr

/- A first fragment and a next one added to a list of the call's own. Condition: sizes up to 2^26. -/
namespace Go.Proofs.Ytbkdbdhbmabgcaa.fr
open Go.RowKit sl harn bx mrw drk stw
set_option linter.unusedVariables false
set_option linter.unusedSimpArgs false
open ux (Rea Fra rea fra)

/-- What hands back a list, a body and a bool; the list's blocks are not the body's. -/
def APost (p : List Rea × List Int × Bool) (w : World) (e : Ending) (w' : World) : Prop := ∃ A n cap es A2 n2 c2, e = .returned (.tuple #[.slice A n cap, .slice A2 n2 c2, .bool p.2.2]) ∧ es.map (fun e : El Rea => e.x) = p.1 ∧ Oe reaS w' w.heap.size w'.heap.size A n cap es ∧ Ow 5 .u8 w' w.heap.size w'.heap.size A2 n2 c2 p.2.1 ∧ Dj es A2 ∧ Below w.heap.size w w'
theorem a_parts {p : List Rea × List Int × Bool} {w w' : World} {e : Ending} (h : APost p w e w') : ∃ A n cap es A2 n2 c2, e = .returned (.tuple #[.slice A n cap, .slice A2 n2 c2, .bool p.2.2]) ∧ es.map (fun e : El Rea => e.x) = p.1 ∧ Oe reaS w' w.heap.size w'.heap.size A n cap es ∧ Ow 5 .u8 w' w.heap.size w'.heap.size A2 n2 c2 p.2.1 ∧ Dj es A2 ∧ Below w.heap.size w w' := h
def addFst (l : List Rea) (f : Fra) (now : Int) : List Rea × List Int × Bool := if f.More = true then (l ++ [start f now], [], false) else (l, f.Body, true)
def addNxt (l : List Rea) (i : Nat) (r : Rea) (f : Fra) : List Rea × List Int × Bool := if f.More = true then (l.set i { r with Body := r.Body ++ f.Body, Next := IntKind.i64.wrap (r.Next + 1) }, [], false) else (l.eraseIdx i, r.Body ++ f.Body, true)
theorem dj_ow {w w2 : World} {lo hi n cap l2 h2 m c : Nat} {A B : Option Addr} {es : List (El Rea)} {zs : List Int} (h : Oe reaS w lo hi A n cap es) (ho : Ow 5 .u8 w2 l2 h2 B m c zs) (hh : hi ≤ l2) : Dj es B :=
  dj_hi h fun q hq => by
    cases B with
    | none => cases hq
    | some b =>
      have : b.block = q := by simpa using hq
      have := ux.ow_in ho b.block (by simp [ux.blks])
      omega
/-- A slice of numbers beside a block of another type: told by its own block alone. -/
theorem ow_own {w : World} {lo hi n c : Nat} {A : Option Addr} {zs : List Int} (ho : Ow 5 .u8 w lo hi A n c zs) (q0 : Nat) (hq0 : lo ≤ q0 ∧ q0 < w.heap.size) (P : Nat → Prop) (h0 : P q0) (hP : ∀ q, blkOf A = some q → P q) : ∃ q, P q ∧ lo ≤ q ∧ Ow 5 .u8 w q (q + 1) A n c zs := by
  cases hA : A with
  | none =>
    refine ⟨q0, h0, hq0.1, ux.ow_to (hA ▸ ho) (fun b hb => by cases hb) (by omega)⟩
  | some a =>
    have h1 := ux.ow_in ho a.block (by rw [hA]; simp [ux.blks])
    refine ⟨a.block, hP _ (by rw [hA]; rfl), h1.1, ux.ow_to (hA ▸ ho) (fun b hb => ?_) (by have := ho.hi_; omega)⟩
    have : b = a.block := by simpa [ux.blks] using hb
    omega
theorem ne_bytes {T : TypeId} {w : World} {b lo hi n c : Nat} {cs : Array Value} {A : Option Addr} {zs : List Int} (hx : Bx T w b cs) (ho : Ow 5 .u8 w lo hi A n c zs) (hT : T ≠ 5) : some b ≠ blkOf A := by
  intro heq
  rcases ho.form with ⟨e, _⟩ | ⟨g, cur, e, _, _, h, _⟩
  · rw [e] at heq; cases heq
  · rw [e] at heq
    obtain rfl : b = g := by simpa using heq
    unfold Bx at hx
    rw [hx] at h
    injection h with h
    injection h with _ h
    exact hT h
theorem ow_out {w : World} {b lo hi n c : Nat} {A : Option Addr} {zs : List Int} (ho : Ow 5 .u8 w lo hi A n c zs) {q : Nat} (hq : blkOf A = some q) : lo ≤ q ∧ q < hi := ux.ow_in ho q (by
  cases A with
  | none => cases hq
  | some a => have : a.block = q := by simpa using hq
              simp [ux.blks, this])
theorem oe_ne {S : Sh Rea} {w : World} {g lo hi n cap lo2 hi2 m c : Nat} {es : List (El Rea)} {A : Option Addr} {zs : List Int} (h : Oe S w lo hi (some ⟨g, 0, none⟩) n cap es) (ho : Ow 5 .u8 w lo2 hi2 A m c zs) : some g ≠ blkOf A := by
  rcases h.form with ⟨e, _⟩ | ⟨g', cur, e, _, _, h3, _⟩
  · cases e
  · injection e with e; injection e with e _
    subst e
    exact ne_bytes (show Bx S.T w g cur from h3) ho S.ne
theorem map_erase {α β : Type} (g : α → β) : ∀ (l : List α) (i : Nat), (l.eraseIdx i).map g = (l.map g).eraseIdx i
  | [], _ => rfl
  | a :: r, 0 => rfl
  | a :: r, i + 1 => by rw [List.eraseIdx_cons_succ, List.map_cons, List.map_cons, List.eraseIdx_cons_succ, map_erase g r i]
theorem rd_more {k : IntKind} {w w' : World} {r : Option Nat} {lo hi n c : Nat} {A : Option Addr} {zs : List Int} (h : Rd k w lo hi A n c zs) (hg : w.grownBy w' r) (hr : ∀ q, r = some q → q < lo ∨ hi ≤ q) : Rd k w' lo hi A n c zs :=
  h.same hg.size fun b h1 h2 => hg.block b (by have := h.hi_; omega) (fun e => by have := hr b e.symm; omega)
set_option maxRecDepth 100000 in
set_option maxHeartbeats 4000000 in
theorem addF (f : Fra) (now : Int) (es : List (El Rea)) (A : Option Addr) (n cap lo hi : Nat) (Af : Option Addr) (nf cf lo2 hi2 : Nat) (w wz : World) (hB : Below w.heap.size w wz) (h : Oe reaS wz lo hi A n cap es) (hr : Rd .u8 wz lo2 hi2 Af nf cf f.Body) (hlo : w.heap.size ≤ lo ∧ lo ≤ wz.heap.size ∧ hi2 ≤ lo) (hn : n ≤ 67108864 ∧ nf ≤ 67108864) :
    Calls Try.prog 63 #[.slice A n cap, fV f Af nf cf, .int .i64 now] wz (APost (addFst (es.map (fun e : El Rea => e.x)) f now) w) := by
  obtain ⟨i0, hi0, hz0, hz1, hz2⟩ := info_parts infoR
  have HZ := Lib.hid (And.intro hi0 (And.intro hz0 (And.intro hz1 hz2)))
  clear hi0 hz0 hz1 hz2
  obtain ⟨p, hp⟩ : ∃ p, addFst (es.map (fun e : El Rea => e.x)) f now = p := ⟨_, rfl⟩
  have HP := Lib.hid hp
  rw [hp]
  clear hp
  obtain ⟨x, hx⟩ : ∃ x, start f now = x := ⟨_, rfl⟩
  have HX := Lib.hid hx
  have HXB := Lib.hid (show x.Body = f.Body by rw [← hx]; rfl)
  clear hx
  have B0 := Lib.hid hB
  have O0 := Lib.hid h
  have R0 := Lib.hid hr
  have HLO := Lib.hid hlo
  have HOH := Lib.hid h.hi_
  have HRH := Lib.hid hr.hi_
  have HNN := Lib.hid hn
  have HNC := Lib.hid hn
  clear hB h hr hlo hn
  obtain ⟨hn1, hn2⟩ := HNC.out
  clear HNC
  go_enter Try.func63, Try.ntmps63
  go_upto_region 1 with fail
  obtain ⟨bx, hbb⟩ : ∃ b, wz.heap.size = b := ⟨_, rfl⟩
  generalize hW : wz.alloc (.cells #[.int .i64 f.Kind, .int .i64 f.From, .int .i64 f.To, .int .i64 f.Seq, .int .i64 f.Fragment, .bool f.More, .bool f.Retry, .int .i64 f.Duration, .slice Af nf cf] 25) = w1
  have LX := Lib.hid (show w.heap.size ≤ bx ∧ hi ≤ bx ∧ hi2 ≤ bx by have h1 := B0.out.size; have h2O := O0.out.hi_; have h2R := R0.out.hi_; have h3 := hbb; omega)
  have X1 := Lib.hid (show Bx 25 w1 bx #[.int .i64 f.Kind, .int .i64 f.From, .int .i64 f.To, .int .i64 f.Seq, .int .i64 f.Fragment, .bool f.More, .bool f.Retry, .int .i64 f.Duration, .slice Af nf cf] by rw [← hW, ← hbb]; exact Bx.made _ _ _)
  have hb : Below wz.heap.size wz w1 := by rw [← hW]; exact below_box _ _
  (try rw [hbb])
  clear hW hbb
  have SS1 := Lib.hid hb.size
  have B1 := Lib.hid (B0.out.trans (hb.mono B0.out.size))
  have O1 := Lib.hid (O0.out.below hb)
  have R1 := Lib.hid (R0.out.below hb)
  clear hb B0 O0 R0
  have LWX := Lib.hid X1.out.lt
  have cX0 : w1.cell? ⟨bx, 0, none⟩ = some (.int .i64 f.Kind) := X1.out.cell 0
  have cX1 : w1.cell? ⟨bx, 1, none⟩ = some (.int .i64 f.From) := X1.out.cell 1
  have cX2 : w1.cell? ⟨bx, 2, none⟩ = some (.int .i64 f.To) := X1.out.cell 2
  have cX3 : w1.cell? ⟨bx, 3, none⟩ = some (.int .i64 f.Seq) := X1.out.cell 3
  have cX4 : w1.cell? ⟨bx, 4, none⟩ = some (.int .i64 f.Fragment) := X1.out.cell 4
  have cX5 : w1.cell? ⟨bx, 5, none⟩ = some (.bool f.More) := X1.out.cell 5
  have cX6 : w1.cell? ⟨bx, 6, none⟩ = some (.bool f.Retry) := X1.out.cell 6
  have cX7 : w1.cell? ⟨bx, 7, none⟩ = some (.int .i64 f.Duration) := X1.out.cell 7
  have cX8 : w1.cell? ⟨bx, 8, none⟩ = some (.slice Af nf cf) := X1.out.cell 8
  go_wp2_with fail
  clear cX0 cX1 cX2 cX3 cX4 cX5 cX6 cX7 cX8
  (with_reducible refine (HX.out ▸ implSr f now Af nf cf _ _ _ R1.out HNN.out.2).mono ?_)
  rintro e w2 hp
  obtain ⟨A1, n1, c1, rfl, ho2, hb⟩ := x_parts hp
  clear hp
  have SS2 := Lib.hid hb.size
  have B2 := Lib.hid (B1.out.trans (hb.mono B1.out.size))
  have X2 := Lib.hid (X1.out.below hb)
  have O2 := Lib.hid (O1.out.below hb)
  have R2 := Lib.hid (R1.out.below hb)
  clear hb B1 X1 O1 R1
  have P2 := Lib.hid ho2
  clear ho2
  go_upto_region 2 with fail
  obtain ⟨bz, hbb⟩ : ∃ b, w2.heap.size = b := ⟨_, rfl⟩
  generalize hW : w2.alloc (.cells #[.int .i64 x.From, .int .i64 x.Seq, .int .i64 x.Next, .slice A1 n1 c1, .int .i64 x.Started] 38) = w3
  have LZ := Lib.hid (show w.heap.size ≤ bz ∧ bx < bz ∧ hi ≤ bz ∧ hi2 ≤ bz ∧ w2.heap.size ≤ bz by have h1 := B2.out.size; have h2X := X2.out.lt; have h2O := O2.out.hi_; have h2R := R2.out.hi_; have h2P := P2.out.hi_; have h3 := hbb; omega)
  have Z3 := Lib.hid (show Bx 38 w3 bz #[.int .i64 x.From, .int .i64 x.Seq, .int .i64 x.Next, .slice A1 n1 c1, .int .i64 x.Started] by rw [← hW, ← hbb]; exact Bx.made _ _ _)
  have hb : Below w2.heap.size w2 w3 := by rw [← hW]; exact below_box _ _
  (try rw [hbb])
  clear hW hbb
  have SS3 := Lib.hid hb.size
  have B3 := Lib.hid (B2.out.trans (hb.mono B2.out.size))
  have X3 := Lib.hid (X2.out.below hb)
  have O3 := Lib.hid (O2.out.below hb)
  have R3 := Lib.hid (R2.out.below hb)
  have P3 := Lib.hid (P2.out.below hb)
  clear hb B2 X2 O2 R2 P2
  have LWZ := Lib.hid Z3.out.lt
  by_cases hM : f.More = true
  · have HE := Lib.hid (show p = (es.map (fun e : El Rea => e.x) ++ [x], [], false) by rw [← HP.out]; unfold addFst; rw [if_pos hM, HX.out])
    have cM : w3.cell? ⟨bx, 5, none⟩ = some (.bool true) := by have hh := X3.out.cell 5; rw [← hM]; exact hh
    clear hM
    have cZ0 : w3.cell? ⟨bz, 0, none⟩ = some (.int .i64 x.From) := Z3.out.cell 0
    have cZ1 : w3.cell? ⟨bz, 1, none⟩ = some (.int .i64 x.Seq) := Z3.out.cell 1
    have cZ2 : w3.cell? ⟨bz, 2, none⟩ = some (.int .i64 x.Next) := Z3.out.cell 2
    have cZ3 : w3.cell? ⟨bz, 3, none⟩ = some (.slice A1 n1 c1) := Z3.out.cell 3
    have cZ4 : w3.cell? ⟨bz, 4, none⟩ = some (.int .i64 x.Started) := Z3.out.cell 4
    go_wp2_with (at_builtin; refine list_push w3 rfl _ _ 31 rfl Try.underlying31 HZ.out.1 HZ.out.2.1 HZ.out.2.2.1 (by rw [HZ.out.2.2.2]; omega) rfl rfl rfl O3.out ⟨x, A1, n1, c1⟩ P3.out (by have hlX := LX.out; have hlZ := LZ.out; have hs0 := HLO.out; have hs1 := HOH.out; have hs2 := HRH.out; have hs3 := SS1.out; have hs4 := LWX.out; have hs5 := SS2.out; have hs6 := SS3.out; have hs7 := LWZ.out; first | omega | (simp <;> omega)) (by have hlX := LX.out; have hlZ := LZ.out; have hs0 := HLO.out; have hs1 := HOH.out; have hs2 := HRH.out; have hs3 := SS1.out; have hs4 := LWX.out; have hs5 := SS2.out; have hs6 := SS3.out; have hs7 := LWZ.out; first | omega | (simp <;> omega)) (by omega) (by have hlX := LX.out; have hlZ := LZ.out; have hs0 := HLO.out; have hs1 := HOH.out; have hs2 := HRH.out; have hs3 := SS1.out; have hs4 := LWX.out; have hs5 := SS2.out; have hs6 := SS3.out; have hs7 := LWZ.out; first | omega | (simp <;> omega)) ?_; intro A3 c3 w4 ho hg; have B4 := Lib.hid (below_grown B3.out hg (fun q hq => by have hlX := LX.out; have hlZ := LZ.out; have hs0 := HLO.out; have hs1 := HOH.out; have hs2 := HRH.out; have hs3 := SS1.out; have hs4 := LWX.out; have hs5 := SS2.out; have hs6 := SS3.out; have hs7 := LWZ.out; have := (O3.out.lo_ hq).1; omega) B3.out.size); have X4 := Lib.hid (grown_bx X3.out hg (rgp.ne_type X3.out O3.out (by decide))); have Z4 := Lib.hid (grown_bx Z3.out hg (fun e => by have hlX := LX.out; have hlZ := LZ.out; have hs0 := HLO.out; have hs1 := HOH.out; have hs2 := HRH.out; have hs3 := SS1.out; have hs4 := LWX.out; have hs5 := SS2.out; have hs6 := SS3.out; have hs7 := LWZ.out; have := O3.out.lo_ e.symm; omega)); have R4 := Lib.hid (rd_grown O3.out hg R3.out (by have hlX := LX.out; have hlZ := LZ.out; have hs0 := HLO.out; have hs1 := HOH.out; have hs2 := HRH.out; have hs3 := SS1.out; have hs4 := LWX.out; have hs5 := SS2.out; have hs6 := SS3.out; have hs7 := LWZ.out; first | omega | (simp <;> omega))); have P4 := Lib.hid (ow_grown O3.out hg P3.out); have SS4 := Lib.hid hg.size; clear B3 X3 Z3 O3 R3 P3; have O4 := Lib.hid ho; clear ho hg)
    clear cM cZ0 cZ1 cZ2 cZ3 cZ4
    obtain ⟨be, hbb⟩ : ∃ b, w4.heap.size = b := ⟨_, rfl⟩
    generalize hW : w4.alloc (.cells #[] 5) = w5
    have LE := Lib.hid (show w.heap.size ≤ be ∧ bx < be ∧ bz < be ∧ w4.heap.size ≤ be ∧ hi2 ≤ be by have h1 := B4.out.size; have h2X := X4.out.lt; have h2Z := Z4.out.lt; have h2O := O4.out.hi_; have h2R := R4.out.hi_; have h3 := hbb; omega)
    have E5 := Lib.hid (show Bx 5 w5 be #[] by rw [← hW, ← hbb]; exact Bx.made _ _ _)
    have hb : Below w4.heap.size w4 w5 := by rw [← hW]; exact below_box _ _
    (try rw [hbb])
    clear hW hbb
    have SS5 := Lib.hid hb.size
    have B5 := Lib.hid (B4.out.trans (hb.mono B4.out.size))
    have X5 := Lib.hid (X4.out.below hb)
    have Z5 := Lib.hid (Z4.out.below hb)
    have O5 := Lib.hid (O4.out.below hb)
    have R5 := Lib.hid (R4.out.below hb)
    clear hb B4 X4 Z4 O4 R4
    have LWE := Lib.hid E5.out.lt
    have hel := LE.out
    have HDJ := Lib.hid (dj_ow O5.out (ow_box E5.out) (by have hlX := LX.out; have hlZ := LZ.out; have hlE := LE.out; have hs0 := HLO.out; have hs1 := HOH.out; have hs2 := HRH.out; have hs3 := SS1.out; have hs4 := LWX.out; have hs5 := SS2.out; have hs6 := SS3.out; have hs7 := LWZ.out; have hs8 := SS4.out; have hs9 := SS5.out; have hs10 := LWE.out; have h9 := LE.out; first | omega | (simp <;> omega)))
    go_ret3
    rw [HE.out]
    exact ⟨_, _, _, _, _, _, _, rfl, by rw [List.map_append]; rfl, (O5.out.up).down HLO.out.1, ((ow_box E5.out).up).down (by have hlX := LX.out; have hlZ := LZ.out; have hlE := LE.out; have hs0 := HLO.out; have hs1 := HOH.out; have hs2 := HRH.out; have hs3 := SS1.out; have hs4 := LWX.out; have hs5 := SS2.out; have hs6 := SS3.out; have hs7 := LWZ.out; have hs8 := SS4.out; have hs9 := SS5.out; have hs10 := LWE.out; have h9 := LE.out; omega), HDJ.out, B5.out⟩
  · have hM2 : f.More = false := by simpa using hM
    have HE := Lib.hid (show p = (es.map (fun e : El Rea => e.x), x.Body, true) by rw [← HP.out]; unfold addFst; rw [if_neg hM, HXB.out])
    have cM : w3.cell? ⟨bx, 5, none⟩ = some (.bool false) := by have hh := X3.out.cell 5; rw [← hM2]; exact hh
    clear hM hM2
    go_upto_region 4 with fail
    clear cM
    refine reg.region_plain reg.Bel 23 [some [], some [], some [(1, 21)], some [(0, 20)], some [(2, 22)], some []] [(0, 20), (1, 21), (2, 22), (3, 6), (4, 7), (5, 8)]
      (fun w' => Below w.heap.size w w' ∧ Bx 25 w' (bx) #[.int .i64 f.Kind, .int .i64 f.From, .int .i64 f.To, .int .i64 f.Seq, .int .i64 f.Fragment, .bool f.More, .bool f.Retry, .int .i64 f.Duration, .slice Af nf cf] ∧ Bx 38 w' (bz) #[.int .i64 x.From, .int .i64 x.Seq, .int .i64 x.Next, .slice A1 n1 c1, .int .i64 x.Started] ∧ Oe reaS w' lo hi A n cap es ∧ Rd .u8 w' (lo2) (hi2) Af nf cf f.Body ∧ Ow 5 .u8 w' (w1.heap.size) (w2.heap.size) A1 n1 c1 x.Body ∧ True)
      (reg.rl [reg.is (.slice A n cap), reg.is (.pointer (some ⟨bz, 3, none⟩)), reg.is (.slice A1 n1 c1), reg.is (.slice A n cap), reg.is (.slice A1 n1 c1), reg.is (.bool true)])
      (by kernel_rfl) (by kernel_rfl) rfl
      (fun w1 w2 hc hb => ⟨hc.1.trans (hb.mono hc.1.size), hc.2.1.below hb, hc.2.2.1.below hb, hc.2.2.2.1.below hb, hc.2.2.2.2.1.below hb, hc.2.2.2.2.2.1.below hb, trivial⟩) (reg.rl_keep _) (⟨own.below_drew B3.out, X3.out.same rfl, Z3.out.same rfl, O3.out.same (Nat.le_refl _) (fun _ _ _ => rfl), own.rd_drew R3.out, own.ow_drew P3.out, trivial⟩) (by kernel_rfl) ⟨?_, ?_, ?_, ?_, ?_, ?_, trivial⟩ ?_
    · refine fun w8 hc  K hK => ?_
      (try simp only [Act.put, List.setIfInBounds_toArray, List.set_cons_zero, List.set_cons_succ])
      go_simp
      exact hK (.slice A n cap) _ rfl (Below.refl _ _)
    · refine fun w8 hc  K hK => ?_
      (try simp only [Act.put, List.setIfInBounds_toArray, List.set_cons_zero, List.set_cons_succ])
      go_simp
      exact hK (.pointer (some ⟨bz, 3, none⟩)) _ rfl (Below.refl _ _)
    · refine fun w8 hc v1 h1 K hK => ?_
      obtain rfl : v1 = .pointer (some ⟨bz, 3, none⟩) := h1
      (try simp only [Act.put, List.setIfInBounds_toArray, List.set_cons_zero, List.set_cons_succ])
      have c0 : w8.cell? ⟨bz, 3, none⟩ = some (.slice A1 n1 c1) := hc.2.2.1.cell 3
      go_simp
      exact hK (.slice A1 n1 c1) _ rfl (Below.refl _ _)
    · refine fun w8 hc v0 h0 K hK => ?_
      obtain rfl : v0 = .slice A n cap := h0
      (try simp only [Act.put, List.setIfInBounds_toArray, List.set_cons_zero, List.set_cons_succ])
      go_simp
      exact hK (.slice A n cap) _ rfl (Below.refl _ _)
    · refine fun w8 hc v2 h2 K hK => ?_
      obtain rfl : v2 = .slice A1 n1 c1 := h2
      (try simp only [Act.put, List.setIfInBounds_toArray, List.set_cons_zero, List.set_cons_succ])
      go_simp
      exact hK (.slice A1 n1 c1) _ rfl (Below.refl _ _)
    · refine fun w8 hc  K hK => ?_
      (try simp only [Act.put, List.setIfInBounds_toArray, List.set_cons_zero, List.set_cons_succ])
      go_simp
      exact hK (.bool true) _ rfl (Below.refl _ _)
    refine fun wg4 hc v0 h0 v1 h1 v2 h2 v3 h3 v4 h4 v5 h5 => ?_
    obtain rfl : v0 = .slice A n cap := h0
    obtain rfl : v1 = .pointer (some ⟨bz, 3, none⟩) := h1
    obtain rfl : v2 = .slice A1 n1 c1 := h2
    obtain rfl : v3 = .slice A n cap := h3
    obtain rfl : v4 = .slice A1 n1 c1 := h4
    obtain rfl : v5 = .bool true := h5
    (try simp only [reg.Obs])
    (try simp only [Act.put, List.setIfInBounds_toArray, List.set_cons_zero, List.set_cons_succ])
    have B4 := Lib.hid hc.1
    have X4 := Lib.hid hc.2.1
    have Z4 := Lib.hid hc.2.2.1
    have O4 := Lib.hid hc.2.2.2.1
    have R4 := Lib.hid hc.2.2.2.2.1
    have P4 := Lib.hid hc.2.2.2.2.2.1
    clear hc B3 X3 Z3 O3 R3 P3
    go_wp2_with fail
    have HDJ := Lib.hid (dj_ow O4.out P4.out (by have hlX := LX.out; have hlZ := LZ.out; have hs0 := HLO.out; have hs1 := HOH.out; have hs2 := HRH.out; have hs3 := SS1.out; have hs4 := LWX.out; have hs5 := SS2.out; have hs6 := SS3.out; have hs7 := LWZ.out; first | omega | (simp <;> omega)))
    go_ret3
    rw [HE.out]
    exact ⟨_, _, _, es, _, _, _, rfl, rfl, (O4.out.up).down HLO.out.1, ((P4.out).up).down (by have hlX := LX.out; have hlZ := LZ.out; have hs0 := HLO.out; have hs1 := HOH.out; have hs2 := HRH.out; have hs3 := SS1.out; have hs4 := LWX.out; have hs5 := SS2.out; have hs6 := SS3.out; have hs7 := LWZ.out; first | omega | (simp <;> omega)), HDJ.out, B4.out⟩
set_option maxRecDepth 100000 in
set_option maxHeartbeats 4000000 in
theorem addN (f : Fra) (x : Rea) (A0 : Option Addr) (n0 c0 i : Nat) (es : List (El Rea)) (he : es[i]? = some ⟨x, A0, n0, c0⟩) (hb0 : n0 ≤ 67108864) (g n cap lo hi : Nat) (Af : Option Addr) (nf cf lo2 hi2 : Nat) (w wz : World) (hB : Below w.heap.size w wz) (h : Oe reaS wz lo hi (some ⟨g, 0, none⟩) n cap es) (hr : Rd .u8 wz lo2 hi2 Af nf cf f.Body) (hlo : w.heap.size ≤ lo ∧ lo ≤ wz.heap.size ∧ hi2 ≤ lo) (hn : n ≤ 67108864 ∧ nf ≤ 67108864) :
    Calls Try.prog 65 #[.slice (some ⟨g, 0, none⟩) n cap, .int .i64 (i : Int), fV f Af nf cf] wz (APost (addNxt (es.map (fun e : El Rea => e.x)) i x f) w) := by
  obtain ⟨j0, hj0, hy0, hy1, hy2⟩ := info_parts u8Info
  have HY8 := Lib.hid (And.intro hj0 (And.intro hy0 (And.intro hy1 hy2)))
  clear hj0 hy0 hy1 hy2
  obtain ⟨p, hp⟩ : ∃ p, addNxt (es.map (fun e : El Rea => e.x)) i x f = p := ⟨_, rfl⟩
  have HP := Lib.hid hp
  rw [hp]
  clear hp
  have HEI := Lib.hid he
  have hin : i < n := by have h1 := (List.getElem?_eq_some_iff.1 he).1; have h2 := h.len; omega
  have HBO := Lib.hid (h.body _ (List.mem_of_getElem? he))
  have HB0 := Lib.hid (show n0 ≤ 67108864 ∧ x.Body.length = n0 from ⟨hb0, (h.body _ (List.mem_of_getElem? he)).len⟩)
  clear he hb0
  have B0 := Lib.hid hB
  have O0 := Lib.hid h
  have R0 := Lib.hid hr
  have HLO := Lib.hid hlo
  have HOH := Lib.hid h.hi_
  have HRH := Lib.hid hr.hi_
  have HNN := Lib.hid hn
  have HGL := Lib.hid (h.lo_ (q := g) rfl)
  have hqc := h.rq.cap_
  clear hB h hr hlo
  obtain ⟨hn1, hn2⟩ := hn
  go_enter Try.func65, Try.ntmps65
  go_upto_region 1 with fail
  obtain ⟨bx, hbb⟩ : ∃ b, wz.heap.size = b := ⟨_, rfl⟩
  generalize hW : wz.alloc (.cells #[.int .i64 f.Kind, .int .i64 f.From, .int .i64 f.To, .int .i64 f.Seq, .int .i64 f.Fragment, .bool f.More, .bool f.Retry, .int .i64 f.Duration, .slice Af nf cf] 25) = w1
  have LX := Lib.hid (show w.heap.size ≤ bx ∧ hi ≤ bx ∧ hi2 ≤ bx by have h1 := B0.out.size; have h2O := O0.out.hi_; have h2R := R0.out.hi_; have h3 := hbb; omega)
  have X1 := Lib.hid (show Bx 25 w1 bx #[.int .i64 f.Kind, .int .i64 f.From, .int .i64 f.To, .int .i64 f.Seq, .int .i64 f.Fragment, .bool f.More, .bool f.Retry, .int .i64 f.Duration, .slice Af nf cf] by rw [← hW, ← hbb]; exact Bx.made _ _ _)
  have hb : Below wz.heap.size wz w1 := by rw [← hW]; exact below_box _ _
  (try rw [hbb])
  clear hW hbb
  have SS1 := Lib.hid hb.size
  have B1 := Lib.hid (B0.out.trans (hb.mono B0.out.size))
  have O1 := Lib.hid (O0.out.below hb)
  have R1 := Lib.hid (R0.out.below hb)
  clear hb B0 O0 R0
  have LWX := Lib.hid X1.out.lt
  obtain ⟨g9, eg9, _, _, hra⟩ := O1.out.at_ HEI.out
  obtain rfl : g = g9 := by injection eg9 with e9; injection e9
  clear eg9
  have ce0 : w1.cell? ⟨g, i * 5, none⟩ = some (.int .i64 x.From) := hra 0 _ rfl
  have ce1 : w1.cell? ⟨g, i * 5 + 1, none⟩ = some (.int .i64 x.Seq) := hra 1 _ rfl
  have ce2 : w1.cell? ⟨g, i * 5 + 2, none⟩ = some (.int .i64 x.Next) := hra 2 _ rfl
  have ce3 : w1.cell? ⟨g, i * 5 + 3, none⟩ = some (.slice A0 n0 c0) := hra 3 _ rfl
  have ce4 : w1.cell? ⟨g, i * 5 + 4, none⟩ = some (.int .i64 x.Started) := hra 4 _ rfl
  clear hra
  go_upto_region 2 with fail
  clear ce0 ce1 ce2 ce3 ce4
  obtain ⟨bz, hbb⟩ : ∃ b, w1.heap.size = b := ⟨_, rfl⟩
  generalize hW : w1.alloc (.cells #[.int .i64 x.From, .int .i64 x.Seq, .int .i64 x.Next, .slice A0 n0 c0, .int .i64 x.Started] 38) = w2
  have LZ := Lib.hid (show w.heap.size ≤ bz ∧ bx < bz ∧ hi ≤ bz ∧ hi2 ≤ bz by have h1 := B1.out.size; have h2X := X1.out.lt; have h2O := O1.out.hi_; have h2R := R1.out.hi_; have h3 := hbb; omega)
  have Z2 := Lib.hid (show Bx 38 w2 bz #[.int .i64 x.From, .int .i64 x.Seq, .int .i64 x.Next, .slice A0 n0 c0, .int .i64 x.Started] by rw [← hW, ← hbb]; exact Bx.made _ _ _)
  have hb : Below w1.heap.size w1 w2 := by rw [← hW]; exact below_box _ _
  (try rw [hbb])
  clear hW hbb
  have SS2 := Lib.hid hb.size
  have B2 := Lib.hid (B1.out.trans (hb.mono B1.out.size))
  have X2 := Lib.hid (X1.out.below hb)
  have O2 := Lib.hid (O1.out.below hb)
  have R2 := Lib.hid (R1.out.below hb)
  clear hb B1 X1 O1 R1
  have LWZ := Lib.hid Z2.out.lt
  have cZ3 : w2.cell? ⟨bz, 3, none⟩ = some (.slice A0 n0 c0) := Z2.out.cell 3
  have cX8 : w2.cell? ⟨bx, 8, none⟩ = some (.slice Af nf cf) := X2.out.cell 8
  have fZ3 : w2.frozen? ⟨bz, 3, none⟩ = false := Z2.out.free 3
  have BO2 := Lib.hid (O2.out.body _ (List.mem_of_getElem? HEI.out))
  have HXN := Lib.hid (ne_bytes X2.out BO2.out (by decide))
  have HZN := Lib.hid (ne_bytes Z2.out BO2.out (by decide))
  go_upto_region 3 with (at_builtin; refine wpList_num _ rfl _ _ 22 rfl 5 j0 _ .u8 Try.underlying22 HY8.out.1 HY8.out.2.1 HY8.out.2.2.1 (by rw [HY8.out.2.2.2]; omega) rfl rfl rfl BO2.out R2.out (by have h1 := HB0.out.1; omega) (by have hlX := LX.out; have hlZ := LZ.out; have hs0 := HLO.out; have hs1 := HOH.out; have hs2 := HRH.out; have hs3 := HGL.out; have hs4 := SS1.out; have hs5 := LWX.out; have hs6 := SS2.out; have hs7 := LWZ.out; first | omega | (simp <;> omega)) ?_; intro A1 c1 w3 ho hg hold hblk; have B3 := Lib.hid (below_grown B2.out hg (fun q hq => by have hlX := LX.out; have hlZ := LZ.out; have hs0 := HLO.out; have hs1 := HOH.out; have hs2 := HRH.out; have hs3 := HGL.out; have hs4 := SS1.out; have hs5 := LWX.out; have hs6 := SS2.out; have hs7 := LWZ.out; have h9 := ow_out (b := 0) BO2.out hq; omega) B2.out.size); have X3 := Lib.hid (grown_bx X2.out hg HXN.out); have Z3 := Lib.hid (grown_bx Z2.out hg HZN.out); have O3 := Lib.hid (oe_beside O2.out HEI.out hg hold); have R3 := Lib.hid (rd_more R2.out hg (fun q hq => by have hlX := LX.out; have hlZ := LZ.out; have hs0 := HLO.out; have hs1 := HOH.out; have hs2 := HRH.out; have hs3 := HGL.out; have hs4 := SS1.out; have hs5 := LWX.out; have hs6 := SS2.out; have hs7 := LWZ.out; have h9 := ow_out (b := 0) BO2.out hq; omega)); have SG := Lib.hid hg.size; have HBK := Lib.hid (show blkOf A1 = blkOf A0 ∨ ∀ q, blkOf A1 = some q → w2.heap.size ≤ q from hblk); have HNW := Lib.hid ho; have HDG := Lib.hid (dj_grown O2.out HEI.out hblk); have fZ3 : w3.frozen? ⟨bz, 3, none⟩ = false := Z3.out.free 3; have cZ3 : w3.cell? ⟨bz, 3, none⟩ = some (.slice A0 n0 c0) := Z3.out.cell 3; clear B2 X2 Z2 O2 R2 ho hg hold hblk)
  clear cX8
  clear cZ3 fZ3
  obtain ⟨q1, hq1, hq2, hN⟩ := ow_own HNW.out g ⟨HGL.out.1, by have hlX := LX.out; have hlZ := LZ.out; have hs0 := HLO.out; have hs1 := HOH.out; have hs2 := HRH.out; have hs3 := HGL.out; have hs4 := SS1.out; have hs5 := LWX.out; have hs6 := SS2.out; have hs7 := LWZ.out; have hs8 := SG.out; omega⟩ (fun q => bz ≠ q ∧ bx ≠ q ∧ w.heap.size ≤ q) ⟨by have hlX := LX.out; have hlZ := LZ.out; have hs0 := HLO.out; have hs1 := HOH.out; have hs2 := HRH.out; have hs3 := HGL.out; have hs4 := SS1.out; have hs5 := LWX.out; have hs6 := SS2.out; have hs7 := LWZ.out; have hs8 := SG.out; omega, by have hlX := LX.out; have hlZ := LZ.out; have hs0 := HLO.out; have hs1 := HOH.out; have hs2 := HRH.out; have hs3 := HGL.out; have hs4 := SS1.out; have hs5 := LWX.out; have hs6 := SS2.out; have hs7 := LWZ.out; have hs8 := SG.out; omega, by have hlX := LX.out; have hlZ := LZ.out; have hs0 := HLO.out; have hs1 := HOH.out; have hs2 := HRH.out; have hs3 := HGL.out; have hs4 := SS1.out; have hs5 := LWX.out; have hs6 := SS2.out; have hs7 := LWZ.out; have hs8 := SG.out; omega⟩ (fun q hq => ⟨fun e => ne_bytes Z3.out HNW.out (by decide) (by rw [e, hq]), fun e => ne_bytes X3.out HNW.out (by decide) (by rw [e, hq]), by have hlX := LX.out; have hlZ := LZ.out; have hs0 := HLO.out; have hs1 := HOH.out; have hs2 := HRH.out; have hs3 := HGL.out; have hs4 := SS1.out; have hs5 := LWX.out; have hs6 := SS2.out; have hs7 := LWZ.out; have hs8 := SG.out; have h9 := ow_out (b := 0) HNW.out hq; omega⟩)
  have N3 := Lib.hid hN
  have HQ1 := Lib.hid hq1
  have HQ2 := Lib.hid hq2
  have HQ3 := Lib.hid hN.hi_
  clear hN hq1 hq2 HNW
  have hWW : (w3.setCell ⟨bz, 3, none⟩ (.slice A1 (n0 + nf) c1)) = (w3.setCell ⟨bz, 3, none⟩ (.slice A1 (n0 + nf) c1)) := rfl
  obtain ⟨w4, hW⟩ : ∃ wy, (w3.setCell ⟨bz, 3, none⟩ (.slice A1 (n0 + nf) c1)) = wy := ⟨_, rfl⟩
  rw [hW]
  clear hWW
  have B4 := Lib.hid (show Below w.heap.size w w4 by rw [← hW]; exact (B3.out.setCell (p := ⟨bz, 3, none⟩) (by have hlX := LX.out; have hlZ := LZ.out; have hs0 := HLO.out; have hs1 := HOH.out; have hs2 := HRH.out; have hs3 := HGL.out; have hs4 := SS1.out; have hs5 := LWX.out; have hs6 := SS2.out; have hs7 := LWZ.out; have hs8 := SG.out; have hs9 := HQ1.out; have hs10 := HQ2.out; have hs11 := HQ3.out; first | omega | (simp <;> omega)) _))
  have X4 := Lib.hid (show Bx 25 w4 (bx) #[.int .i64 f.Kind, .int .i64 f.From, .int .i64 f.To, .int .i64 f.Seq, .int .i64 f.Fragment, .bool f.More, .bool f.Retry, .int .i64 f.Duration, .slice Af nf cf] by rw [← hW]; exact (X3.out.other (by have hlX := LX.out; have hlZ := LZ.out; have hs0 := HLO.out; have hs1 := HOH.out; have hs2 := HRH.out; have hs3 := HGL.out; have hs4 := SS1.out; have hs5 := LWX.out; have hs6 := SS2.out; have hs7 := LWZ.out; have hs8 := SG.out; have hs9 := HQ1.out; have hs10 := HQ2.out; have hs11 := HQ3.out; first | omega | (simp <;> omega)) _ _))
  have Z4 := Lib.hid (show Bx 38 w4 (bz) #[.int .i64 x.From, .int .i64 x.Seq, .int .i64 x.Next, .slice A1 (n0 + nf) c1, .int .i64 x.Started] by rw [← hW]; exact (Z3.out.set 3 _))
  have O4 := Lib.hid (show Oe reaS w4 lo hi (some ⟨g, 0, none⟩) n cap es by rw [← hW]; exact (O3.out.same (by simp [World.setCell]) fun b h1 h2 => by rw [Below.heap_setCell _ _ _ _ (by have hlX := LX.out; have hlZ := LZ.out; have hs0 := HLO.out; have hs1 := HOH.out; have hs2 := HRH.out; have hs3 := HGL.out; have hs4 := SS1.out; have hs5 := LWX.out; have hs6 := SS2.out; have hs7 := LWZ.out; have hs8 := SG.out; have hs9 := HQ1.out; have hs10 := HQ2.out; have hs11 := HQ3.out; first | omega | (simp <;> omega))]))
  have R4 := Lib.hid (show Rd .u8 w4 (lo2) (hi2) Af nf cf f.Body by rw [← hW]; exact (R3.out.same (by simp [World.setCell]) fun b h1 h2 => by rw [Below.heap_setCell _ _ _ _ (by have hlX := LX.out; have hlZ := LZ.out; have hs0 := HLO.out; have hs1 := HOH.out; have hs2 := HRH.out; have hs3 := HGL.out; have hs4 := SS1.out; have hs5 := LWX.out; have hs6 := SS2.out; have hs7 := LWZ.out; have hs8 := SG.out; have hs9 := HQ1.out; have hs10 := HQ2.out; have hs11 := HQ3.out; first | omega | (simp <;> omega))]))
  have N4 := Lib.hid (show Ow 5 .u8 w4 (q1) ((q1 + 1)) A1 (n0 + nf) c1 (x.Body ++ f.Body) by rw [← hW]; exact (N3.out.same (by simp [World.setCell]) fun b h1 h2 => by rw [Below.heap_setCell _ _ _ _ (by have hlX := LX.out; have hlZ := LZ.out; have hs0 := HLO.out; have hs1 := HOH.out; have hs2 := HRH.out; have hs3 := HGL.out; have hs4 := SS1.out; have hs5 := LWX.out; have hs6 := SS2.out; have hs7 := LWZ.out; have hs8 := SG.out; have hs9 := HQ1.out; have hs10 := HQ2.out; have hs11 := HQ3.out; first | omega | (simp <;> omega))]))
  clear hW B3 X3 Z3 O3 R3 N3
  have SQ4 := Lib.hid Z4.out.lt
  by_cases hM : f.More = true
  · obtain ⟨nx, hnx⟩ : ∃ nx, IntKind.i64.wrap (x.Next + 1) = nx := ⟨_, rfl⟩
    have HE := Lib.hid (show p = ((es.map (fun e : El Rea => e.x)).set i ({ x with Body := x.Body ++ f.Body, Next := nx } : Rea), [], false) by rw [← HP.out]; unfold addNxt; rw [if_pos hM, hnx])
    have cM : w4.cell? ⟨bx, 5, none⟩ = some (.bool true) := by have hh := X4.out.cell 5; rw [← hM]; exact hh
    clear hM
    have cZ2 : w4.cell? ⟨bz, 2, none⟩ = some (.int .i64 x.Next) := Z4.out.cell 2
    have fZ2 : w4.frozen? ⟨bz, 2, none⟩ = false := Z4.out.free 2
    go_upto_region 6 with fail
    (try rw [hnx])
    clear cM cZ2 fZ2
    have hWW : (w4.setCell ⟨bz, 2, none⟩ (.int .i64 nx)) = (w4.setCell ⟨bz, 2, none⟩ (.int .i64 nx)) := rfl
    obtain ⟨w5, hW⟩ : ∃ wy, (w4.setCell ⟨bz, 2, none⟩ (.int .i64 nx)) = wy := ⟨_, rfl⟩
    rw [hW]
    clear hWW
    have B5 := Lib.hid (show Below w.heap.size w w5 by rw [← hW]; exact (B4.out.setCell (p := ⟨bz, 2, none⟩) (by have hlX := LX.out; have hlZ := LZ.out; have hs0 := HLO.out; have hs1 := HOH.out; have hs2 := HRH.out; have hs3 := HGL.out; have hs4 := SS1.out; have hs5 := LWX.out; have hs6 := SS2.out; have hs7 := LWZ.out; have hs8 := SG.out; have hs9 := HQ1.out; have hs10 := HQ2.out; have hs11 := HQ3.out; have hs12 := SQ4.out; first | omega | (simp <;> omega)) _))
    have X5 := Lib.hid (show Bx 25 w5 (bx) #[.int .i64 f.Kind, .int .i64 f.From, .int .i64 f.To, .int .i64 f.Seq, .int .i64 f.Fragment, .bool f.More, .bool f.Retry, .int .i64 f.Duration, .slice Af nf cf] by rw [← hW]; exact (X4.out.other (by have hlX := LX.out; have hlZ := LZ.out; have hs0 := HLO.out; have hs1 := HOH.out; have hs2 := HRH.out; have hs3 := HGL.out; have hs4 := SS1.out; have hs5 := LWX.out; have hs6 := SS2.out; have hs7 := LWZ.out; have hs8 := SG.out; have hs9 := HQ1.out; have hs10 := HQ2.out; have hs11 := HQ3.out; have hs12 := SQ4.out; first | omega | (simp <;> omega)) _ _))
    have Z5 := Lib.hid (show Bx 38 w5 (bz) #[.int .i64 x.From, .int .i64 x.Seq, .int .i64 nx, .slice A1 (n0 + nf) c1, .int .i64 x.Started] by rw [← hW]; exact (Z4.out.set 2 _))
    have O5 := Lib.hid (show Oe reaS w5 lo hi (some ⟨g, 0, none⟩) n cap es by rw [← hW]; exact (O4.out.same (by simp [World.setCell]) fun b h1 h2 => by rw [Below.heap_setCell _ _ _ _ (by have hlX := LX.out; have hlZ := LZ.out; have hs0 := HLO.out; have hs1 := HOH.out; have hs2 := HRH.out; have hs3 := HGL.out; have hs4 := SS1.out; have hs5 := LWX.out; have hs6 := SS2.out; have hs7 := LWZ.out; have hs8 := SG.out; have hs9 := HQ1.out; have hs10 := HQ2.out; have hs11 := HQ3.out; have hs12 := SQ4.out; first | omega | (simp <;> omega))]))
    have R5 := Lib.hid (show Rd .u8 w5 (lo2) (hi2) Af nf cf f.Body by rw [← hW]; exact (R4.out.same (by simp [World.setCell]) fun b h1 h2 => by rw [Below.heap_setCell _ _ _ _ (by have hlX := LX.out; have hlZ := LZ.out; have hs0 := HLO.out; have hs1 := HOH.out; have hs2 := HRH.out; have hs3 := HGL.out; have hs4 := SS1.out; have hs5 := LWX.out; have hs6 := SS2.out; have hs7 := LWZ.out; have hs8 := SG.out; have hs9 := HQ1.out; have hs10 := HQ2.out; have hs11 := HQ3.out; have hs12 := SQ4.out; first | omega | (simp <;> omega))]))
    have N5 := Lib.hid (show Ow 5 .u8 w5 (q1) ((q1 + 1)) A1 (n0 + nf) c1 (x.Body ++ f.Body) by rw [← hW]; exact (N4.out.same (by simp [World.setCell]) fun b h1 h2 => by rw [Below.heap_setCell _ _ _ _ (by have hlX := LX.out; have hlZ := LZ.out; have hs0 := HLO.out; have hs1 := HOH.out; have hs2 := HRH.out; have hs3 := HGL.out; have hs4 := SS1.out; have hs5 := LWX.out; have hs6 := SS2.out; have hs7 := LWZ.out; have hs8 := SG.out; have hs9 := HQ1.out; have hs10 := HQ2.out; have hs11 := HQ3.out; have hs12 := SQ4.out; first | omega | (simp <;> omega))]))
    clear hW B4 X4 Z4 O4 R4 N4
    have SQ5 := Lib.hid Z5.out.lt
    have TH := Lib.hid (show w5.there g (i * 5) 5 from O5.out.there (by omega))
    have HSZ := Lib.hid szRea
    have HON := Lib.hid (oneRea x.From x.Seq nx A1 (n0 + nf) c1 x.Started)
    have HNS := Lib.hid N5.out
    have cZ0 : w5.cell? ⟨bz, 0, none⟩ = some (.int .i64 x.From) := Z5.out.cell 0
    have cZ1 : w5.cell? ⟨bz, 1, none⟩ = some (.int .i64 x.Seq) := Z5.out.cell 1
    have cZ2 : w5.cell? ⟨bz, 2, none⟩ = some (.int .i64 nx) := Z5.out.cell 2
    have cZ3 : w5.cell? ⟨bz, 3, none⟩ = some (.slice A1 (n0 + nf) c1) := Z5.out.cell 3
    have cZ4 : w5.cell? ⟨bz, 4, none⟩ = some (.int .i64 x.Started) := Z5.out.cell 4
    go_upto_region 7 with ((refine mrw.list_storeAt g (i * 5) #[.int .i64 x.From, .int .i64 x.Seq, .int .i64 nx, .slice A1 (n0 + nf) c1, .int .i64 x.Started] TH.out HSZ.out HON.out ?_ ?_ ?_; (· rfl); (· rfl)))
    obtain ⟨w6, hw6⟩ : ∃ v, w5.setCells g (i * 5) [.int .i64 x.From, .int .i64 x.Seq, .int .i64 nx, .slice A1 (n0 + nf) c1, .int .i64 x.Started] = v := ⟨_, rfl⟩
    (first | rw [hw6] | (change Code.wp _ _ _ _ _; rw [hw6]))
    have O6 := Lib.hid (show Oe reaS w6 lo w6.heap.size (some ⟨g, 0, none⟩) n cap (es.set i ⟨({ x with Body := x.Body ++ f.Body, Next := nx } : Rea), A1, n0 + nf, c1⟩) by rw [← hw6]; exact (oe_upd O5.out hin ⟨({ x with Body := x.Body ++ f.Body, Next := nx } : Rea), A1, n0 + nf, c1⟩ HNS.out HQ2.out HDG.out).up)
    have B6 := Lib.hid (show Below w.heap.size w w6 by rw [← hw6]; exact mrw.below_setCells _ _ _ B5.out (by have hlX := LX.out; have hlZ := LZ.out; have hs0 := HLO.out; have hs1 := HOH.out; have hs2 := HRH.out; have hs3 := HGL.out; have hs4 := SS1.out; have hs5 := LWX.out; have hs6 := SS2.out; have hs7 := LWZ.out; have hs8 := SG.out; have hs9 := HQ1.out; have hs10 := HQ2.out; have hs11 := HQ3.out; have hs12 := SQ4.out; have hs13 := SQ5.out; omega))
    have SW := Lib.hid (show w5.heap.size ≤ w6.heap.size by rw [← hw6, mrw.size_setCells]; exact Nat.le_refl _)
    clear hw6 TH HNS cZ0 cZ1 cZ2 cZ3 cZ4
    go_wp2_with fail
    obtain ⟨be, hbb⟩ : ∃ b, w6.heap.size = b := ⟨_, rfl⟩
    generalize hW : w6.alloc (.cells #[] 5) = w7
    have LE := Lib.hid (show w.heap.size ≤ be ∧ w6.heap.size ≤ be by have h1 := B6.out.size; have h2O := O6.out.hi_; have h3 := hbb; omega)
    have E7 := Lib.hid (show Bx 5 w7 be #[] by rw [← hW, ← hbb]; exact Bx.made _ _ _)
    have hb : Below w6.heap.size w6 w7 := by rw [← hW]; exact below_box _ _
    (try rw [hbb])
    clear hW hbb
    have SS7 := Lib.hid hb.size
    have B7 := Lib.hid (B6.out.trans (hb.mono B6.out.size))
    have O7 := Lib.hid (O6.out.below hb)
    clear hb B6 O6
    have LWE := Lib.hid E7.out.lt
    have HDJ := Lib.hid (dj_ow O7.out (ow_box E7.out) (by have hlX := LX.out; have hlZ := LZ.out; have hlE := LE.out; have hs0 := HLO.out; have hs1 := HOH.out; have hs2 := HRH.out; have hs3 := HGL.out; have hs4 := SS1.out; have hs5 := LWX.out; have hs6 := SS2.out; have hs7 := LWZ.out; have hs8 := SG.out; have hs9 := HQ1.out; have hs10 := HQ2.out; have hs11 := HQ3.out; have hs12 := SQ4.out; have hs13 := SQ5.out; have hs14 := SW.out; have hs15 := SS7.out; have hs16 := LWE.out; have h9 := LE.out; first | omega | (simp <;> omega)))
    go_ret3
    rw [HE.out]
    exact ⟨_, _, _, _, _, _, _, rfl, by rw [List.map_set], (O7.out.up).down HLO.out.1, ((ow_box E7.out).up).down (by have hlX := LX.out; have hlZ := LZ.out; have hlE := LE.out; have hs0 := HLO.out; have hs1 := HOH.out; have hs2 := HRH.out; have hs3 := HGL.out; have hs4 := SS1.out; have hs5 := LWX.out; have hs6 := SS2.out; have hs7 := LWZ.out; have hs8 := SG.out; have hs9 := HQ1.out; have hs10 := HQ2.out; have hs11 := HQ3.out; have hs12 := SQ4.out; have hs13 := SQ5.out; have hs14 := SW.out; have hs15 := SS7.out; have hs16 := LWE.out; have h9 := LE.out; omega), HDJ.out, B7.out⟩
  · have hM2 : f.More = false := by simpa using hM
    have HE := Lib.hid (show p = ((es.map (fun e : El Rea => e.x)).eraseIdx i, x.Body ++ f.Body, true) by rw [← HP.out]; unfold addNxt; rw [if_neg hM])
    have cM : w4.cell? ⟨bx, 5, none⟩ = some (.bool false) := by have hh := X4.out.cell 5; rw [← hM2]; exact hh
    clear hM hM2
    go_upto_region 4 with fail
    clear cM
    obtain ⟨j, hj⟩ : ∃ j, i + 1 = j := ⟨_, rfl⟩
    have HJ := Lib.hid hj
    have hjw : IntKind.i64.wrap ((i : Int) + 1) = (j : Int) := by rw [show (i : Int) + 1 = (j : Int) by omega]; exact IntWalk.i64_in _ (by omega)
    clear hj
    have hb : Below w4.heap.size w4 w4.drew := own.below_drew (Below.refl _ _)
    have SS5 := Lib.hid hb.size
    have B5 := Lib.hid (B4.out.trans (hb.mono B4.out.size))
    have X5 := Lib.hid (X4.out.below hb)
    have Z5 := Lib.hid (Z4.out.below hb)
    have O5 := Lib.hid (O4.out.below hb)
    have R5 := Lib.hid (R4.out.below hb)
    have N5 := Lib.hid (N4.out.below hb)
    clear hb B4 X4 Z4 O4 R4 N4
    have ca : w4.drew.cell? ⟨bz, 3, none⟩ = some (.slice A1 (n0 + nf) c1) := Z5.out.cell 3
    go_region_held3 (fun w' => w'.cell? ⟨bz, 3, none⟩ = some (.slice A1 (n0 + nf) c1)) (first | (with_reducible exact ca) | (with_reducible exact cb)) (first | (go_at_call 62; refine (delR es g n cap lo hi i j HJ.out hin hn1 _ O5.out).mono ?_; rintro e w7 ⟨rfl, ho, hg⟩; have B6 := Lib.hid (below_grown B5.out hg (fun q hq => by have hlX := LX.out; have hlZ := LZ.out; have hs0 := HLO.out; have hs1 := HOH.out; have hs2 := HRH.out; have hs3 := HGL.out; have hs4 := SS1.out; have hs5 := LWX.out; have hs6 := SS2.out; have hs7 := LWZ.out; have hs8 := SG.out; have hs9 := HQ1.out; have hs10 := HQ2.out; have hs11 := HQ3.out; have hs12 := SQ4.out; have hs13 := SS5.out; injection hq with h9; omega) B5.out.size); have Z6 := Lib.hid (grown_bx Z5.out hg (fun e => by have hlX := LX.out; have hlZ := LZ.out; have hs0 := HLO.out; have hs1 := HOH.out; have hs2 := HRH.out; have hs3 := HGL.out; have hs4 := SS1.out; have hs5 := LWX.out; have hs6 := SS2.out; have hs7 := LWZ.out; have hs8 := SG.out; have hs9 := HQ1.out; have hs10 := HQ2.out; have hs11 := HQ3.out; have hs12 := SQ4.out; have hs13 := SS5.out; injection e with h9; omega)); have N6 := Lib.hid (ow_grown O5.out hg N5.out); have O6 := Lib.hid ho; have SD := Lib.hid hg.size; have cb : w7.cell? ⟨bz, 3, none⟩ = some (.slice A1 (n0 + nf) c1) := Z6.out.cell 3; clear ho hg))
    clear ca cb
    go_wp2_with fail
    go_ret3
    rw [HE.out]
    exact ⟨_, _, _, es.eraseIdx i, _, _, _, rfl, map_erase _ _ _, (O6.out.up).down HLO.out.1, ((N6.out).up).down (by have hlX := LX.out; have hlZ := LZ.out; have hs0 := HLO.out; have hs1 := HOH.out; have hs2 := HRH.out; have hs3 := HGL.out; have hs4 := SS1.out; have hs5 := LWX.out; have hs6 := SS2.out; have hs7 := LWZ.out; have hs8 := SG.out; have hs9 := HQ1.out; have hs10 := HQ2.out; have hs11 := HQ3.out; have hs12 := SQ4.out; have hs13 := SS5.out; have hs14 := SD.out; omega), dj_erase HDG.out, B6.out⟩
end Go.Proofs.Ytbkdbdhbmabgcaa.fr

/- AddFragment of the program. Condition: sizes up to 2^26. -/
namespace Go.Proofs.Ytbkdbdhbmabgcaa.fr
open Go.RowKit sl harn bx mrw drk stw
set_option linter.unusedVariables false
set_option linter.unusedSimpArgs false
open ux (Rea Fra rea fra)

theorem er_out {α : Type} (l : List α) : l.eraseIdx l.length = l := List.eraseIdx_of_length_le (Nat.le_refl _)
theorem add_zero {l : List Rea} {f : Fra} {now : Int} (h : f.Fragment = 0) : add l f now = addFst (without l f.From) f now := by unfold add addFst; rw [if_pos h]
theorem without_none {l : List Rea} {x : Int} (h : ¬ fst l x < l.length) : without l x = l := by
  unfold without
  have : fst l x = l.length := by have := fst_le l x; omega
  rw [this]; exact er_out l
theorem add_no {l : List Rea} {f : Fra} {now : Int} (h : ¬ f.Fragment = 0) (h2 : ¬ (0 < f.Fragment ∧ fst l f.From < l.length ∧ cont (l.getD (fst l f.From) zr) f = true)) : add l f now = (l, [], false) := by unfold add; rw [if_neg h, if_neg h2]
theorem add_yes {l : List Rea} {f : Fra} {now : Int} {k : Nat} {x : Rea} (h0 : 0 < f.Fragment) (hk : fst l f.From = k) (hx : l[k]? = some x) (hc : cont x f = true) : add l f now = addNxt l k x f := by
  have hkl : k < l.length := (List.getElem?_eq_some_iff.1 hx).1
  have hn : x.Next = f.Fragment := by
    unfold cont at hc
    simp only [Bool.and_eq_true, beq_iff_eq] at hc
    exact hc.2.1
  unfold add addNxt without
  rw [if_neg (by omega), hk, getD_of hx, if_pos ⟨h0, hkl, hc⟩, hn]
theorem el_at {l : List Rea} {es : List (El Rea)} {n k : Nat} (he : es.map (fun e : El Rea => e.x) = l) (hl : es.length = n) (hk : k < n) : ∃ (x : Rea) (A0 : Option Addr) (n0 c0 : Nat), es[k]? = some ⟨x, A0, n0, c0⟩ ∧ l[k]? = some x := by
  have h9 : es[k]? = some es[k] := List.getElem?_eq_getElem (by omega)
  refine ⟨es[k].x, es[k].A, es[k].n, es[k].c, h9, ?_⟩
  rw [← he, List.getElem?_map, h9]; rfl
set_option maxRecDepth 100000 in
set_option maxHeartbeats 4000000 in
theorem implAf (f : Fra) (now : Int) (ms : List Rea) (A : Option Addr) (n cap lo hi : Nat) (hn : n ≤ 67108864) (hbd : ∀ y ∈ ms, y.Body.length ≤ 67108864) (w : World) (h : Rq reaS w lo hi A n cap ms) (Af : Option Addr) (nf cf lo2 hi2 : Nat) (hr : Rd .u8 w lo2 hi2 Af nf cf f.Body) (hnf : nf ≤ 67108864) :
    Calls Try.prog 18 #[.slice A n cap, fV f Af nf cf, .int .i64 now] w (APost (add ms f now) w) := by
  obtain ⟨p, hp⟩ : ∃ p, add ms f now = p := ⟨_, rfl⟩
  have HP := Lib.hid hp
  rw [hp]
  clear hp
  have HRH := Lib.hid hr.hi_
  have HFL := Lib.hid (show f.Body.length = nf from hr.len)
  have RW := Lib.hid hr
  have HNF := Lib.hid hnf
  have hnf2 := hnf
  clear hr hnf
  have QW := Lib.hid h
  have hqh := h.hi_
  have hqc := h.cap_
  have HBD := Lib.hid hbd
  have HN := Lib.hid hn
  have HLN0 := Lib.hid h.len
  clear h hbd
  go_enter Try.func18, Try.ntmps18
  go_upto_region 1 with fail
  obtain ⟨w0, hW⟩ : ∃ w0, w.alloc (.cells #[.int .i64 f.Kind, .int .i64 f.From, .int .i64 f.To, .int .i64 f.Seq, .int .i64 f.Fragment, .bool f.More, .bool f.Retry, .int .i64 f.Duration, .slice Af nf cf] 25) = w0 := ⟨_, rfl⟩
  rw [hW]
  have B0 := Lib.hid (show Below w.heap.size w w0 by rw [← hW]; exact (Below.refl _ _).alloc (by simp <;> omega) _)
  have X0 := Lib.hid (show Bx 25 w0 (w.heap.size) #[.int .i64 f.Kind, .int .i64 f.From, .int .i64 f.To, .int .i64 f.Seq, .int .i64 f.Fragment, .bool f.More, .bool f.Retry, .int .i64 f.Duration, .slice Af nf cf] by
      rw [← hW]
      have hh := Bx.made 25 w #[.int .i64 f.Kind, .int .i64 f.From, .int .i64 f.To, .int .i64 f.Seq, .int .i64 f.Fragment, .bool f.More, .bool f.Retry, .int .i64 f.Duration, .slice Af nf cf]
      exact hh)
  have Q0 := Lib.hid (show Rq reaS w0 lo hi A n cap ms by rw [← hW]; exact (QW.out.below (below_box _ _)))
  have R0 := Lib.hid (show Rd .u8 w0 (lo2) (hi2) Af nf cf f.Body by rw [← hW]; exact (RW.out.below (below_box _ _)))
  clear hW
  have LTX := Lib.hid X0.out.lt
  go_wp2_with fail
  (with_reducible refine (implCs ms A n cap _ _ HN.out HBD.out _ Q0.out).mono ?_)
  rintro e w1 hp
  obtain ⟨g, nq, cq, es, rfl, hes, ho2, hb⟩ := c_parts hp
  clear hp
  have HES := Lib.hid hes
  have hnq : nq = n := by have h1 := ho2.len; have h2 := congrArg List.length hes; have h3 := HLN0.out; simp at h2; omega
  have hqn : nq ≤ 67108864 := by have := HN.out; omega
  have HNQ := Lib.hid hnq
  clear hes hnq
  have SS1 := Lib.hid hb.size
  have B1 := Lib.hid (B0.out.trans (hb.mono B0.out.size))
  have X1 := Lib.hid (X0.out.below hb)
  have Q1 := Lib.hid (Q0.out.below hb)
  have R1 := Lib.hid (R0.out.below hb)
  clear hb B0 X0 Q0 R0
  have O1 := Lib.hid ho2
  clear ho2
  have HOH := Lib.hid O1.out.hi_
  have HOL := Lib.hid O1.out.len
  obtain ⟨v, hv⟩ : ∃ v, fidx ms f.From = v := ⟨_, rfl⟩
  have HV := Lib.hid hv
  clear hv
  have cX0 : w1.cell? ⟨w.heap.size, 0, none⟩ = some (.int .i64 f.Kind) := X1.out.cell 0
  have cX1 : w1.cell? ⟨w.heap.size, 1, none⟩ = some (.int .i64 f.From) := X1.out.cell 1
  have cX2 : w1.cell? ⟨w.heap.size, 2, none⟩ = some (.int .i64 f.To) := X1.out.cell 2
  have cX3 : w1.cell? ⟨w.heap.size, 3, none⟩ = some (.int .i64 f.Seq) := X1.out.cell 3
  have cX4 : w1.cell? ⟨w.heap.size, 4, none⟩ = some (.int .i64 f.Fragment) := X1.out.cell 4
  have cX5 : w1.cell? ⟨w.heap.size, 5, none⟩ = some (.bool f.More) := X1.out.cell 5
  have cX6 : w1.cell? ⟨w.heap.size, 6, none⟩ = some (.bool f.Retry) := X1.out.cell 6
  have cX7 : w1.cell? ⟨w.heap.size, 7, none⟩ = some (.int .i64 f.Duration) := X1.out.cell 7
  have cX8 : w1.cell? ⟨w.heap.size, 8, none⟩ = some (.slice Af nf cf) := X1.out.cell 8
  go_wp2_with fail
  clear cX0 cX1 cX2 cX3 cX4 cX5 cX6 cX7 cX8
  (with_reducible refine (implFr f.From ms (some ⟨g, 0, none⟩) nq cq _ _ _ (HES.out ▸ O1.out.rq)).mono ?_)
  rintro e w2 hp
  obtain ⟨rfl, hb⟩ := n_parts HV.out hp
  clear hp
  have SS2 := Lib.hid hb.size
  have B2 := Lib.hid (B1.out.trans (hb.mono B1.out.size))
  have X2 := Lib.hid (X1.out.below hb)
  have R2 := Lib.hid (R1.out.below hb)
  have O2 := Lib.hid (O1.out.below hb)
  clear hb B1 X1 R1 O1
  have HLW := Lib.hid (show w.heap.size ≤ w0.heap.size ∧ w0.heap.size ≤ w2.heap.size ∧ hi2 ≤ w0.heap.size by have hs0 := LTX.out; have hs1 := HRH.out; have hs2 := SS1.out; have hs3 := SS2.out; first | omega | (simp <;> omega))
  by_cases h0 : f.Fragment = 0
  · by_cases hfi : fst ms f.From < ms.length
    · obtain ⟨i, hi9⟩ : ∃ i, fst ms f.From = i := ⟨_, rfl⟩
      obtain rfl : v = (i : Int) := by rw [← HV.out]; unfold fidx; rw [if_pos hfi, hi9]
      have hin : i < nq := by have h1 := HES.out; have h2 := HOL.out; rw [← h1] at hfi; simp at hfi; rw [← h1] at hi9; omega
      have HE := Lib.hid (show (es.eraseIdx i).map (fun e : El Rea => e.x) = without ms f.From ∧ addFst (without ms f.From) f now = p by rw [map_erase, HES.out, ← HP.out]; unfold without; rw [hi9]; exact ⟨rfl, by rw [add_zero h0]; unfold without; rw [hi9]⟩)
      have cF : w2.cell? ⟨w.heap.size, 4, none⟩ = some (.int .i64 0) := by have hh := X2.out.cell 4; rw [← h0]; exact hh
      clear h0 hfi hi9
      obtain ⟨j, hj⟩ : ∃ j, i + 1 = j := ⟨_, rfl⟩
      have HJ := Lib.hid hj
      have hjw : IntKind.i64.wrap ((i : Int) + 1) = (j : Int) := by rw [show (i : Int) + 1 = (j : Int) by omega]; exact IntWalk.i64_in _ (by omega)
      clear hj
      go_wp2_with fail
      clear cF
      (with_reducible refine (delR es g nq cq _ _ i j HJ.out hin hqn _ O2.out).mono ?_)
      rintro e w3 ⟨rfl, ho, hg⟩
      have B3 := Lib.hid (below_grown B2.out hg (fun q hq => by have hs0 := LTX.out; have hs1 := HRH.out; have hs2 := SS1.out; have hs3 := SS2.out; have hs4 := HLW.out; injection hq with h9; have h8 := O2.out.lo_ (q := g) rfl; omega) B2.out.size)
      have X3 := Lib.hid (grown_bx X2.out hg (rgp.ne_type X2.out O2.out (by decide)))
      have R3 := Lib.hid (rd_more R2.out hg (fun q hq => by have hs0 := LTX.out; have hs1 := HRH.out; have hs2 := SS1.out; have hs3 := SS2.out; have hs4 := HLW.out; injection hq with h9; have h8 := O2.out.lo_ (q := g) rfl; omega))
      have SD := Lib.hid hg.size
      have O3 := Lib.hid ho
      clear ho hg B2 X2 R2 O2
      have cX0 : w3.cell? ⟨w.heap.size, 0, none⟩ = some (.int .i64 f.Kind) := X3.out.cell 0
      have cX1 : w3.cell? ⟨w.heap.size, 1, none⟩ = some (.int .i64 f.From) := X3.out.cell 1
      have cX2 : w3.cell? ⟨w.heap.size, 2, none⟩ = some (.int .i64 f.To) := X3.out.cell 2
      have cX3 : w3.cell? ⟨w.heap.size, 3, none⟩ = some (.int .i64 f.Seq) := X3.out.cell 3
      have cX4 : w3.cell? ⟨w.heap.size, 4, none⟩ = some (.int .i64 f.Fragment) := X3.out.cell 4
      have cX5 : w3.cell? ⟨w.heap.size, 5, none⟩ = some (.bool f.More) := X3.out.cell 5
      have cX6 : w3.cell? ⟨w.heap.size, 6, none⟩ = some (.bool f.Retry) := X3.out.cell 6
      have cX7 : w3.cell? ⟨w.heap.size, 7, none⟩ = some (.int .i64 f.Duration) := X3.out.cell 7
      have cX8 : w3.cell? ⟨w.heap.size, 8, none⟩ = some (.slice Af nf cf) := X3.out.cell 8
      go_wp2_with fail
      clear cX0 cX1 cX2 cX3 cX4 cX5 cX6 cX7 cX8
      (with_reducible refine (addF f now (es.eraseIdx i) (some ⟨g, 0, none⟩) (nq - 1) cq _ _ Af nf cf _ _ w _ B3.out O3.out R3.out ⟨HLW.out.1, by have hs0 := LTX.out; have hs1 := HRH.out; have hs2 := SS1.out; have hs3 := SS2.out; have hs4 := HLW.out; have hs5 := SD.out; omega, HLW.out.2.2⟩ ⟨by omega, HNF.out⟩).mono ?_)
      rw [HE.out.1, HE.out.2]
      rintro e w4 hp
      obtain ⟨A5, n5, c5, es5, A6, n6, c6, rfl, h1, h2, h3, h4, h5⟩ := a_parts hp
      have P1 := Lib.hid h1
      have P2 := Lib.hid h2
      have P3 := Lib.hid h3
      have P4 := Lib.hid h4
      have P5 := Lib.hid h5
      clear hp h1 h2 h3 h4 h5
      go_wp2_with fail
      go_ret3
      exact ⟨_, _, _, es5, _, _, _, rfl, P1.out, P2.out, P3.out, P4.out, P5.out⟩
    · obtain rfl : v = -1 := by rw [← HV.out]; unfold fidx; rw [if_neg hfi]
      have HE := Lib.hid (show addFst (es.map (fun e : El Rea => e.x)) f now = p by rw [HES.out, ← HP.out, add_zero h0, without_none hfi])
      have cF : w2.cell? ⟨w.heap.size, 4, none⟩ = some (.int .i64 0) := by have hh := X2.out.cell 4; rw [← h0]; exact hh
      clear h0 hfi
      go_upto_region 6 with fail
      clear cF
      have cX0 : w2.cell? ⟨w.heap.size, 0, none⟩ = some (.int .i64 f.Kind) := X2.out.cell 0
      have cX1 : w2.cell? ⟨w.heap.size, 1, none⟩ = some (.int .i64 f.From) := X2.out.cell 1
      have cX2 : w2.cell? ⟨w.heap.size, 2, none⟩ = some (.int .i64 f.To) := X2.out.cell 2
      have cX3 : w2.cell? ⟨w.heap.size, 3, none⟩ = some (.int .i64 f.Seq) := X2.out.cell 3
      have cX4 : w2.cell? ⟨w.heap.size, 4, none⟩ = some (.int .i64 f.Fragment) := X2.out.cell 4
      have cX5 : w2.cell? ⟨w.heap.size, 5, none⟩ = some (.bool f.More) := X2.out.cell 5
      have cX6 : w2.cell? ⟨w.heap.size, 6, none⟩ = some (.bool f.Retry) := X2.out.cell 6
      have cX7 : w2.cell? ⟨w.heap.size, 7, none⟩ = some (.int .i64 f.Duration) := X2.out.cell 7
      have cX8 : w2.cell? ⟨w.heap.size, 8, none⟩ = some (.slice Af nf cf) := X2.out.cell 8
      go_wp2_with fail
      clear cX0 cX1 cX2 cX3 cX4 cX5 cX6 cX7 cX8
      (with_reducible refine (addF f now (es) (some ⟨g, 0, none⟩) (nq) cq _ _ Af nf cf _ _ w _ B2.out O2.out R2.out ⟨HLW.out.1, by have hs0 := LTX.out; have hs1 := HRH.out; have hs2 := SS1.out; have hs3 := SS2.out; have hs4 := HLW.out; omega, HLW.out.2.2⟩ ⟨by omega, HNF.out⟩).mono ?_)
      rw [HE.out]
      rintro e w3 hp
      obtain ⟨A5, n5, c5, es5, A6, n6, c6, rfl, h1, h2, h3, h4, h5⟩ := a_parts hp
      have P1 := Lib.hid h1
      have P2 := Lib.hid h2
      have P3 := Lib.hid h3
      have P4 := Lib.hid h4
      have P5 := Lib.hid h5
      clear hp h1 h2 h3 h4 h5
      go_wp2_with fail
      go_ret3
      exact ⟨_, _, _, es5, _, _, _, rfl, P1.out, P2.out, P3.out, P4.out, P5.out⟩
  · have hd0 : decide (f.Fragment = 0) = false := decide_eq_false h0
    have cX0 : w2.cell? ⟨w.heap.size, 0, none⟩ = some (.int .i64 f.Kind) := X2.out.cell 0
    have cX1 : w2.cell? ⟨w.heap.size, 1, none⟩ = some (.int .i64 f.From) := X2.out.cell 1
    have cX2 : w2.cell? ⟨w.heap.size, 2, none⟩ = some (.int .i64 f.To) := X2.out.cell 2
    have cX3 : w2.cell? ⟨w.heap.size, 3, none⟩ = some (.int .i64 f.Seq) := X2.out.cell 3
    have cX4 : w2.cell? ⟨w.heap.size, 4, none⟩ = some (.int .i64 f.Fragment) := X2.out.cell 4
    have cX5 : w2.cell? ⟨w.heap.size, 5, none⟩ = some (.bool f.More) := X2.out.cell 5
    have cX6 : w2.cell? ⟨w.heap.size, 6, none⟩ = some (.bool f.Retry) := X2.out.cell 6
    have cX7 : w2.cell? ⟨w.heap.size, 7, none⟩ = some (.int .i64 f.Duration) := X2.out.cell 7
    have cX8 : w2.cell? ⟨w.heap.size, 8, none⟩ = some (.slice Af nf cf) := X2.out.cell 8
    go_upto_region 7 with fail
    clear cX0 cX1 cX2 cX3 cX4 cX5 cX6 cX7 cX8
    by_cases hf : 0 < f.Fragment
    · by_cases hfi : fst ms f.From < ms.length
      · obtain ⟨i, hi9⟩ : ∃ i, fst ms f.From = i := ⟨_, rfl⟩
        obtain rfl : v = (i : Int) := by rw [← HV.out]; unfold fidx; rw [if_pos hfi, hi9]
        have hin : i < nq := by have h1 := HES.out; have h2 := HOL.out; rw [← h1] at hfi; simp at hfi; rw [← h1] at hi9; omega
        obtain ⟨x, A0, n0, c0, hei, hxi⟩ := el_at HES.out HOL.out hin
        have HEI := Lib.hid hei
        have HXI := Lib.hid hxi
        have HBE := Lib.hid (O2.out.body _ (List.mem_of_getElem? hei))
        have hxl : x.Body.length = n0 := (O2.out.body _ (List.mem_of_getElem? hei)).len
        have hxn : n0 ≤ 67108864 := by have h9 := HBD.out x (List.mem_of_getElem? hxi); omega
        have HXL := Lib.hid (And.intro hxl hxn)
        clear hei hxi hxl
        obtain ⟨g9, eg9, _, _, hra⟩ := O2.out.at_ HEI.out
        obtain rfl : g = g9 := by injection eg9 with e9; injection e9
        clear eg9
        have ce0 : w2.cell? ⟨g, i * 5, none⟩ = some (.int .i64 x.From) := hra 0 _ rfl
        have ce1 : w2.cell? ⟨g, i * 5 + 1, none⟩ = some (.int .i64 x.Seq) := hra 1 _ rfl
        have ce2 : w2.cell? ⟨g, i * 5 + 2, none⟩ = some (.int .i64 x.Next) := hra 2 _ rfl
        have ce3 : w2.cell? ⟨g, i * 5 + 3, none⟩ = some (.slice A0 n0 c0) := hra 3 _ rfl
        have ce4 : w2.cell? ⟨g, i * 5 + 4, none⟩ = some (.int .i64 x.Started) := hra 4 _ rfl
        have me0 := af_cell ce0
        have me1 := af_cell ce1
        have me2 := af_cell ce2
        have me3 := af_cell ce3
        have me4 := af_cell ce4
        clear hra ce0 ce1 ce2 ce3 ce4
        obtain ⟨u, hu⟩ : ∃ u, cont x f = u := ⟨_, rfl⟩
        have HU := Lib.hid hu
        clear hu
        have HFI := Lib.hid (And.intro hfi hi9)
        clear hfi hi9
        have q0 := Lib.hid (fun m => by have hh := implCn x f A0 n0 c0 Af nf cf m.w ⟨HXL.out.1, HFL.out⟩ ⟨by have := HXL.out.2; omega, by have := HNF.out; omega⟩ (by have := HXL.out.2; omega); rw [HU.out] at hh; exact hh : ∀ m : bx.Af w2, Calls Try.prog 64 #[rV x A0 n0 c0, fV f Af nf cf] m.w fun e w' => e = .returned (.bool u) ∧ Below m.w.heap.size m.w w')
        have m0 : ∀ m : bx.Af w2, m.w.cell? ⟨w.heap.size, 0, none⟩ = some (.int .i64 f.Kind) := fun m => (bx.Af.cells X2.out m).cell 0
        have m1 : ∀ m : bx.Af w2, m.w.cell? ⟨w.heap.size, 1, none⟩ = some (.int .i64 f.From) := fun m => (bx.Af.cells X2.out m).cell 1
        have m2 : ∀ m : bx.Af w2, m.w.cell? ⟨w.heap.size, 2, none⟩ = some (.int .i64 f.To) := fun m => (bx.Af.cells X2.out m).cell 2
        have m3 : ∀ m : bx.Af w2, m.w.cell? ⟨w.heap.size, 3, none⟩ = some (.int .i64 f.Seq) := fun m => (bx.Af.cells X2.out m).cell 3
        have m4 : ∀ m : bx.Af w2, m.w.cell? ⟨w.heap.size, 4, none⟩ = some (.int .i64 f.Fragment) := fun m => (bx.Af.cells X2.out m).cell 4
        have m5 : ∀ m : bx.Af w2, m.w.cell? ⟨w.heap.size, 5, none⟩ = some (.bool f.More) := fun m => (bx.Af.cells X2.out m).cell 5
        have m6 : ∀ m : bx.Af w2, m.w.cell? ⟨w.heap.size, 6, none⟩ = some (.bool f.Retry) := fun m => (bx.Af.cells X2.out m).cell 6
        have m7 : ∀ m : bx.Af w2, m.w.cell? ⟨w.heap.size, 7, none⟩ = some (.int .i64 f.Duration) := fun m => (bx.Af.cells X2.out m).cell 7
        have m8 : ∀ m : bx.Af w2, m.w.cell? ⟨w.heap.size, 8, none⟩ = some (.slice Af nf cf) := fun m => (bx.Af.cells X2.out m).cell 8
        have gd : decide (0 < f.Fragment) = true := decide_eq_true hf
        refine bx.region_after (by kernel_rfl) (by kernel_rfl) ?_
        repeat (go_big_quiet_step ((go_at_call 64; with_reducible exact bx.Af.call (q0.out _))))
        refine wpQuiet_nil ?_
        intro _ hw'
        obtain ⟨nq9, hw''⟩ := hw'
        subst hw''
        clear m0 m1 m2 m3 m4 m5 m6 m7 m8 gd q0 me0 me1 me2 me3 me4
        obtain ⟨w3, hw5⟩ : ∃ w5, nq9.w = w5 := ⟨_, rfl⟩
        have hb := nq9.below
        rw [hw5] at hb
        (try rw [hw5])
        clear hw5
        have SS3 := Lib.hid hb.size
        have B3 := Lib.hid (B2.out.trans (hb.mono B2.out.size))
        have X3 := Lib.hid (X2.out.below hb)
        have R3 := Lib.hid (R2.out.below hb)
        have O3 := Lib.hid (O2.out.below hb)
        clear hb nq9 B2 X2 R2 O2
        cases u with
        | true =>
          have HE := Lib.hid (show addNxt (es.map (fun e : El Rea => e.x)) i x f = p by rw [HES.out, ← HP.out]; exact (add_yes hf HFI.out.2 HXI.out HU.out).symm)
          have cX0 : w3.cell? ⟨w.heap.size, 0, none⟩ = some (.int .i64 f.Kind) := X3.out.cell 0
          have cX1 : w3.cell? ⟨w.heap.size, 1, none⟩ = some (.int .i64 f.From) := X3.out.cell 1
          have cX2 : w3.cell? ⟨w.heap.size, 2, none⟩ = some (.int .i64 f.To) := X3.out.cell 2
          have cX3 : w3.cell? ⟨w.heap.size, 3, none⟩ = some (.int .i64 f.Seq) := X3.out.cell 3
          have cX4 : w3.cell? ⟨w.heap.size, 4, none⟩ = some (.int .i64 f.Fragment) := X3.out.cell 4
          have cX5 : w3.cell? ⟨w.heap.size, 5, none⟩ = some (.bool f.More) := X3.out.cell 5
          have cX6 : w3.cell? ⟨w.heap.size, 6, none⟩ = some (.bool f.Retry) := X3.out.cell 6
          have cX7 : w3.cell? ⟨w.heap.size, 7, none⟩ = some (.int .i64 f.Duration) := X3.out.cell 7
          have cX8 : w3.cell? ⟨w.heap.size, 8, none⟩ = some (.slice Af nf cf) := X3.out.cell 8
          go_wp2_with fail
          clear cX0 cX1 cX2 cX3 cX4 cX5 cX6 cX7 cX8
          (with_reducible refine (addN f x A0 n0 c0 i es HEI.out HXL.out.2 g nq cq _ _ Af nf cf _ _ w _ B3.out O3.out R3.out ⟨HLW.out.1, by have hs0 := LTX.out; have hs1 := HRH.out; have hs2 := SS1.out; have hs3 := SS2.out; have hs4 := HLW.out; have hs5 := SS3.out; omega, HLW.out.2.2⟩ ⟨by omega, HNF.out⟩).mono ?_)
          rw [HE.out]
          rintro e w4 hp
          obtain ⟨A5, n5, c5, es5, A6, n6, c6, rfl, h1, h2, h3, h4, h5⟩ := a_parts hp
          have P1 := Lib.hid h1
          have P2 := Lib.hid h2
          have P3 := Lib.hid h3
          have P4 := Lib.hid h4
          have P5 := Lib.hid h5
          clear hp h1 h2 h3 h4 h5
          go_wp2_with fail
          go_ret3
          exact ⟨_, _, _, es5, _, _, _, rfl, P1.out, P2.out, P3.out, P4.out, P5.out⟩
        | false =>
          have HE := Lib.hid (show p = (ms, [], false) by rw [← HP.out]; exact add_no h0 (fun h => by have h9 := h.2.2; rw [HFI.out.2, getD_of HXI.out, HU.out] at h9; cases h9))
          go_wp2_with fail
          obtain ⟨be, hbb⟩ : ∃ b, w3.heap.size = b := ⟨_, rfl⟩
          generalize hW : w3.alloc (.cells #[] 5) = w4
          have LE := Lib.hid (show w.heap.size ≤ be ∧ w.heap.size < be ∧ hi2 ≤ be ∧ w1.heap.size ≤ be by have h1 := B3.out.size; have h2X := X3.out.lt; have h2R := R3.out.hi_; have h2O := O3.out.hi_; have h3 := hbb; omega)
          have E4 := Lib.hid (show Bx 5 w4 be #[] by rw [← hW, ← hbb]; exact Bx.made _ _ _)
          have hb : Below w3.heap.size w3 w4 := by rw [← hW]; exact below_box _ _
          (try rw [hbb])
          clear hW hbb
          have SS4 := Lib.hid hb.size
          have B4 := Lib.hid (B3.out.trans (hb.mono B3.out.size))
          have X4 := Lib.hid (X3.out.below hb)
          have R4 := Lib.hid (R3.out.below hb)
          have O4 := Lib.hid (O3.out.below hb)
          clear hb B3 X3 R3 O3
          have LWE := Lib.hid E4.out.lt
          have HDJ := Lib.hid (dj_ow O4.out (ow_box E4.out) (by have hlE := LE.out; have hs0 := LTX.out; have hs1 := HRH.out; have hs2 := SS1.out; have hs3 := SS2.out; have hs4 := HLW.out; have hs5 := SS3.out; have hs6 := SS4.out; have hs7 := LWE.out; have h9 := LE.out; first | omega | (simp <;> omega)))
          go_ret3
          rw [HE.out]
          exact ⟨_, _, _, es, _, _, _, rfl, HES.out, (O4.out.up).down HLW.out.1, ((ow_box E4.out).up).down (by have hlE := LE.out; have hs0 := LTX.out; have hs1 := HRH.out; have hs2 := SS1.out; have hs3 := SS2.out; have hs4 := HLW.out; have hs5 := SS3.out; have hs6 := SS4.out; have hs7 := LWE.out; have h9 := LE.out; omega), HDJ.out, B4.out⟩
      · obtain rfl : v = -1 := by rw [← HV.out]; unfold fidx; rw [if_neg hfi]
        have m0 : ∀ m : bx.Af w2, m.w.cell? ⟨w.heap.size, 0, none⟩ = some (.int .i64 f.Kind) := fun m => (bx.Af.cells X2.out m).cell 0
        have m1 : ∀ m : bx.Af w2, m.w.cell? ⟨w.heap.size, 1, none⟩ = some (.int .i64 f.From) := fun m => (bx.Af.cells X2.out m).cell 1
        have m2 : ∀ m : bx.Af w2, m.w.cell? ⟨w.heap.size, 2, none⟩ = some (.int .i64 f.To) := fun m => (bx.Af.cells X2.out m).cell 2
        have m3 : ∀ m : bx.Af w2, m.w.cell? ⟨w.heap.size, 3, none⟩ = some (.int .i64 f.Seq) := fun m => (bx.Af.cells X2.out m).cell 3
        have m4 : ∀ m : bx.Af w2, m.w.cell? ⟨w.heap.size, 4, none⟩ = some (.int .i64 f.Fragment) := fun m => (bx.Af.cells X2.out m).cell 4
        have m5 : ∀ m : bx.Af w2, m.w.cell? ⟨w.heap.size, 5, none⟩ = some (.bool f.More) := fun m => (bx.Af.cells X2.out m).cell 5
        have m6 : ∀ m : bx.Af w2, m.w.cell? ⟨w.heap.size, 6, none⟩ = some (.bool f.Retry) := fun m => (bx.Af.cells X2.out m).cell 6
        have m7 : ∀ m : bx.Af w2, m.w.cell? ⟨w.heap.size, 7, none⟩ = some (.int .i64 f.Duration) := fun m => (bx.Af.cells X2.out m).cell 7
        have m8 : ∀ m : bx.Af w2, m.w.cell? ⟨w.heap.size, 8, none⟩ = some (.slice Af nf cf) := fun m => (bx.Af.cells X2.out m).cell 8
        have gd : decide (0 < f.Fragment) = true := decide_eq_true hf
        refine bx.region_after (by kernel_rfl) (by kernel_rfl) ?_
        repeat (go_big_quiet_step (fail))
        refine wpQuiet_nil ?_
        intro _ hw'
        obtain ⟨nq9, hw''⟩ := hw'
        subst hw''
        clear m0 m1 m2 m3 m4 m5 m6 m7 m8 gd
        obtain ⟨w3, hw5⟩ : ∃ w5, nq9.w = w5 := ⟨_, rfl⟩
        have hb := nq9.below
        rw [hw5] at hb
        (try rw [hw5])
        clear hw5
        have SS3 := Lib.hid hb.size
        have B3 := Lib.hid (B2.out.trans (hb.mono B2.out.size))
        have X3 := Lib.hid (X2.out.below hb)
        have R3 := Lib.hid (R2.out.below hb)
        have O3 := Lib.hid (O2.out.below hb)
        clear hb nq9 B2 X2 R2 O2
        have HE := Lib.hid (show p = (ms, [], false) by rw [← HP.out]; exact add_no h0 (fun h => hfi h.2.1))
        go_wp2_with fail
        obtain ⟨be, hbb⟩ : ∃ b, w3.heap.size = b := ⟨_, rfl⟩
        generalize hW : w3.alloc (.cells #[] 5) = w4
        have LE := Lib.hid (show w.heap.size ≤ be ∧ w.heap.size < be ∧ hi2 ≤ be ∧ w1.heap.size ≤ be by have h1 := B3.out.size; have h2X := X3.out.lt; have h2R := R3.out.hi_; have h2O := O3.out.hi_; have h3 := hbb; omega)
        have E4 := Lib.hid (show Bx 5 w4 be #[] by rw [← hW, ← hbb]; exact Bx.made _ _ _)
        have hb : Below w3.heap.size w3 w4 := by rw [← hW]; exact below_box _ _
        (try rw [hbb])
        clear hW hbb
        have SS4 := Lib.hid hb.size
        have B4 := Lib.hid (B3.out.trans (hb.mono B3.out.size))
        have X4 := Lib.hid (X3.out.below hb)
        have R4 := Lib.hid (R3.out.below hb)
        have O4 := Lib.hid (O3.out.below hb)
        clear hb B3 X3 R3 O3
        have LWE := Lib.hid E4.out.lt
        have HDJ := Lib.hid (dj_ow O4.out (ow_box E4.out) (by have hlE := LE.out; have hs0 := LTX.out; have hs1 := HRH.out; have hs2 := SS1.out; have hs3 := SS2.out; have hs4 := HLW.out; have hs5 := SS3.out; have hs6 := SS4.out; have hs7 := LWE.out; have h9 := LE.out; first | omega | (simp <;> omega)))
        go_ret3
        rw [HE.out]
        exact ⟨_, _, _, es, _, _, _, rfl, HES.out, (O4.out.up).down HLW.out.1, ((ow_box E4.out).up).down (by have hlE := LE.out; have hs0 := LTX.out; have hs1 := HRH.out; have hs2 := SS1.out; have hs3 := SS2.out; have hs4 := HLW.out; have hs5 := SS3.out; have hs6 := SS4.out; have hs7 := LWE.out; have h9 := LE.out; omega), HDJ.out, B4.out⟩
    · have m0 : ∀ m : bx.Af w2, m.w.cell? ⟨w.heap.size, 0, none⟩ = some (.int .i64 f.Kind) := fun m => (bx.Af.cells X2.out m).cell 0
      have m1 : ∀ m : bx.Af w2, m.w.cell? ⟨w.heap.size, 1, none⟩ = some (.int .i64 f.From) := fun m => (bx.Af.cells X2.out m).cell 1
      have m2 : ∀ m : bx.Af w2, m.w.cell? ⟨w.heap.size, 2, none⟩ = some (.int .i64 f.To) := fun m => (bx.Af.cells X2.out m).cell 2
      have m3 : ∀ m : bx.Af w2, m.w.cell? ⟨w.heap.size, 3, none⟩ = some (.int .i64 f.Seq) := fun m => (bx.Af.cells X2.out m).cell 3
      have m4 : ∀ m : bx.Af w2, m.w.cell? ⟨w.heap.size, 4, none⟩ = some (.int .i64 f.Fragment) := fun m => (bx.Af.cells X2.out m).cell 4
      have m5 : ∀ m : bx.Af w2, m.w.cell? ⟨w.heap.size, 5, none⟩ = some (.bool f.More) := fun m => (bx.Af.cells X2.out m).cell 5
      have m6 : ∀ m : bx.Af w2, m.w.cell? ⟨w.heap.size, 6, none⟩ = some (.bool f.Retry) := fun m => (bx.Af.cells X2.out m).cell 6
      have m7 : ∀ m : bx.Af w2, m.w.cell? ⟨w.heap.size, 7, none⟩ = some (.int .i64 f.Duration) := fun m => (bx.Af.cells X2.out m).cell 7
      have m8 : ∀ m : bx.Af w2, m.w.cell? ⟨w.heap.size, 8, none⟩ = some (.slice Af nf cf) := fun m => (bx.Af.cells X2.out m).cell 8
      have gd : decide (0 < f.Fragment) = false := decide_eq_false hf
      refine bx.region_after (by kernel_rfl) (by kernel_rfl) ?_
      repeat (go_big_quiet_step (fail))
      refine wpQuiet_nil ?_
      intro _ hw'
      obtain ⟨nq9, hw''⟩ := hw'
      subst hw''
      clear m0 m1 m2 m3 m4 m5 m6 m7 m8 gd
      obtain ⟨w3, hw5⟩ : ∃ w5, nq9.w = w5 := ⟨_, rfl⟩
      have hb := nq9.below
      rw [hw5] at hb
      (try rw [hw5])
      clear hw5
      have SS3 := Lib.hid hb.size
      have B3 := Lib.hid (B2.out.trans (hb.mono B2.out.size))
      have X3 := Lib.hid (X2.out.below hb)
      have R3 := Lib.hid (R2.out.below hb)
      have O3 := Lib.hid (O2.out.below hb)
      clear hb nq9 B2 X2 R2 O2
      have HE := Lib.hid (show p = (ms, [], false) by rw [← HP.out]; exact add_no h0 (fun h => hf h.1))
      go_wp2_with fail
      obtain ⟨be, hbb⟩ : ∃ b, w3.heap.size = b := ⟨_, rfl⟩
      generalize hW : w3.alloc (.cells #[] 5) = w4
      have LE := Lib.hid (show w.heap.size ≤ be ∧ w.heap.size < be ∧ hi2 ≤ be ∧ w1.heap.size ≤ be by have h1 := B3.out.size; have h2X := X3.out.lt; have h2R := R3.out.hi_; have h2O := O3.out.hi_; have h3 := hbb; omega)
      have E4 := Lib.hid (show Bx 5 w4 be #[] by rw [← hW, ← hbb]; exact Bx.made _ _ _)
      have hb : Below w3.heap.size w3 w4 := by rw [← hW]; exact below_box _ _
      (try rw [hbb])
      clear hW hbb
      have SS4 := Lib.hid hb.size
      have B4 := Lib.hid (B3.out.trans (hb.mono B3.out.size))
      have X4 := Lib.hid (X3.out.below hb)
      have R4 := Lib.hid (R3.out.below hb)
      have O4 := Lib.hid (O3.out.below hb)
      clear hb B3 X3 R3 O3
      have LWE := Lib.hid E4.out.lt
      have HDJ := Lib.hid (dj_ow O4.out (ow_box E4.out) (by have hlE := LE.out; have hs0 := LTX.out; have hs1 := HRH.out; have hs2 := SS1.out; have hs3 := SS2.out; have hs4 := HLW.out; have hs5 := SS3.out; have hs6 := SS4.out; have hs7 := LWE.out; have h9 := LE.out; first | omega | (simp <;> omega)))
      go_ret3
      rw [HE.out]
      exact ⟨_, _, _, es, _, _, _, rfl, HES.out, (O4.out.up).down HLW.out.1, ((ow_box E4.out).up).down (by have hlE := LE.out; have hs0 := LTX.out; have hs1 := HRH.out; have hs2 := SS1.out; have hs3 := SS2.out; have hs4 := HLW.out; have hs5 := SS3.out; have hs6 := SS4.out; have hs7 := LWE.out; have h9 := LE.out; omega), HDJ.out, B4.out⟩
end Go.Proofs.Ytbkdbdhbmabgcaa.fr

/- l18Without of the specification. Condition: sizes up to 2^26. -/
namespace Go.Proofs.Ytbkdbdhbmabgcaa.fr
open Go.RowKit sl harn bx mrw drk stw
set_option linter.unusedVariables false
set_option linter.unusedSimpArgs false
open ux (Rea Fra rea fra)

end Go.Proofs.Ytbkdbdhbmabgcaa.fr

/- AddFragment of the specification. Condition: sizes up to 2^26. -/
namespace Go.Proofs.Ytbkdbdhbmabgcaa.fr
open Go.RowKit sl harn bx mrw drk stw
set_option linter.unusedVariables false
set_option linter.unusedSimpArgs false
open ux (Rea Fra rea fra)

/-- What hands back a list, a body and a bool. -/
def TPost3 (p : List Rea × List Int × Bool) (w : World) (e : Ending) (w' : World) : Prop := ∃ A n cap es A2 n2 c2, e = .returned (.tuple #[.slice A n cap, .slice A2 n2 c2, .bool p.2.2]) ∧ es.map (fun e : El Rea => e.x) = p.1 ∧ Oe reaS w' w.heap.size w'.heap.size A n cap es ∧ Ow 5 .u8 w' w.heap.size w'.heap.size A2 n2 c2 p.2.1 ∧ Below w.heap.size w w'
theorem t3_parts {p : List Rea × List Int × Bool} {w w' : World} {e : Ending} (h : TPost3 p w e w') : ∃ A n cap es A2 n2 c2, e = .returned (.tuple #[.slice A n cap, .slice A2 n2 c2, .bool p.2.2]) ∧ es.map (fun e : El Rea => e.x) = p.1 ∧ Oe reaS w' w.heap.size w'.heap.size A n cap es ∧ Ow 5 .u8 w' w.heap.size w'.heap.size A2 n2 c2 p.2.1 ∧ Below w.heap.size w w' := h
section
variable {α : Type} {S : Sh α} {w w' : World} {lo hi n cap : Nat} {A : Option Addr} {es : List (El α)}
/-- The slice of an element replaced by another. -/
theorem oe_slice {g i : Nat} (h : Oe S w lo hi (some ⟨g, 0, none⟩) n cap es) {e : El α} (he : es[i]? = some e) (f : El α) {j : Nat} (v : Value) (hj : j < S.s) (hC : cells S f = (cells S e).set j v) {lo2 hi2 : Nat} (hf : Ow 5 .u8 w lo2 hi2 f.A f.n f.c (S.B f.x)) (hl : lo ≤ lo2)
    (hd : ∀ (j : Nat) (e : El α), j ≠ i → es[j]? = some e → ∀ a b, e.A = some a → f.A = some b → a.block ≠ b.block) :
    Oe S (w.setCell ⟨g, i * S.s + j, none⟩ v) lo w.heap.size (some ⟨g, 0, none⟩) n cap (es.set i f) := by
  have hs := (h.row.stored (i * S.s + j) v).1
  rw [← flat_set (S := S) (f := f) he hj hC] at hs
  obtain ⟨cur, h1, h2, h3, h4, h5, h6⟩ := mrw.row_at h.row
  have hgl := h.lt g 0 rfl
  have hlen := h.len
  have hin : i < es.length := (List.getElem?_eq_some_iff.1 he).1
  have hsz : (w.setCell ⟨g, i * S.s + j, none⟩ v).heap.size = w.heap.size := by simp [World.setCell]
  have kp : ∀ (e : El α) (l r : Nat), Ow 5 .u8 w l r e.A e.n e.c (S.B e.x) → Ow 5 .u8 (w.setCell ⟨g, i * S.s + j, none⟩ v) l r e.A e.n e.c (S.B e.x) := by
    intro e l r he
    obtain ⟨⟨q1, q2⟩, q3, q4, q5⟩ := he
    refine ⟨⟨q1, ?_⟩, q3, by omega, q5⟩
    rcases q2 with q2 | ⟨g', c', cur', e', r1, r2, r3⟩
    · exact Or.inl q2
    · refine Or.inr ⟨g', c', cur', e', r1, ?_, r3⟩
      rw [Below.heap_setCell _ _ _ _ (show g' ≠ g from fun heq => by
        subst heq
        rw [h1] at r2
        simp only [Option.some.injEq, Obj.cells.injEq] at r2
        exact S.ne r2.2.1)]
      exact r2
  refine ⟨hs, fun e he2 => ?_, ?_, by omega, fun g' o e => by injection e with e; injection e with e _; subst e; have := h.hi_; omega⟩
  · rw [← hsz]
    obtain ⟨j2, hj2⟩ := List.mem_iff_getElem?.1 he2
    by_cases hij : i = j2
    · subst hij
      rw [List.getElem?_set_self (by omega)] at hj2
      obtain rfl : f = e := Option.some.inj hj2
      exact (kp f lo2 hi2 hf).up.down hl
    · rw [List.getElem?_set_ne hij] at hj2
      exact (kp e lo hi (h.body e (List.mem_of_getElem? hj2))).up
  · refine List.pairwise_iff_getElem.2 fun p q hp hq hpq a b ha hb => ?_
    have hds := List.pairwise_iff_getElem.1 h.ds
    have hp' : p < es.length := by simpa using hp
    have hq' : q < es.length := by simpa using hq
    by_cases h1 : p = i
    · subst h1
      rw [List.getElem_set_self] at ha
      rw [List.getElem_set_ne (by omega)] at hb
      exact fun hab => hd q _ (by omega) (List.getElem?_eq_getElem hq') b a hb ha hab.symm
    · rw [List.getElem_set_ne (fun e => h1 e.symm)] at ha
      by_cases h2 : q = i
      · subst h2
        rw [List.getElem_set_self] at hb
        exact hd p _ h1 (List.getElem?_eq_getElem hp') a b ha hb
      · rw [List.getElem_set_ne (fun e => h2 e.symm)] at hb
        exact hds p q hp' hq' hpq a b ha hb
end
theorem cont_no {x : Rea} {f : Fra} (h : x.Seq = f.Seq → x.Next = f.Fragment → ¬ ((x.Body.length : Int) + f.Body.length ≤ 100)) : cont x f = false := by
  unfold cont
  by_cases h1 : x.Seq = f.Seq
  · by_cases h2 : x.Next = f.Fragment
    · have := h h1 h2
      simp [h1, h2]; omega
    · simp [h2]
  · simp [h1]
theorem cont_yes {x : Rea} {f : Fra} (h1 : x.Seq = f.Seq) (h2 : x.Next = f.Fragment) (h3 : (x.Body.length : Int) + f.Body.length ≤ 100) : cont x f = true := by
  unfold cont; simp [h1, h2]; omega
end Go.Proofs.Ytbkdbdhbmabgcaa.fr

/- The three results of AddFragment as the harness tells them. Condition: none. -/
namespace Go.Proofs.Ytbkdbdhbmabgcaa.fr
open Go.RowKit sl harn bx mrw drk stw
set_option linter.unusedVariables false
open ux (Rea Fra rea fra rowRea rowFra RR OO Rep Ue fps blks)
section
variable {l : List Rea} {b : List Int} {d : Bool} {w w' : World} {e : Ending}
theorem t3_out (h : TPost3 (l, b, d) w e w') : ∃ A n cap es A2 n2 c2, e = .returned (.tuple #[.slice A n cap, .slice A2 n2 c2, .bool d]) ∧ es.map (fun e : El Rea => e.x) = l ∧ Oe reaS w' w.heap.size w'.heap.size A n cap es ∧ Ow 5 .u8 w' w.heap.size w'.heap.size A2 n2 c2 b ∧ Below w.heap.size w w' := h
theorem a_out (h : APost (l, b, d) w e w') : ∃ A n cap es A2 n2 c2, e = .returned (.tuple #[.slice A n cap, .slice A2 n2 c2, .bool d]) ∧ es.map (fun e : El Rea => e.x) = l ∧ Oe reaS w' w.heap.size w'.heap.size A n cap es ∧ Ow 5 .u8 w' w.heap.size w'.heap.size A2 n2 c2 b ∧ Dj es A2 ∧ Below w.heap.size w w' := h
end
/-- A list of the call's own beside a slice of bytes that shares no block with it. -/
theorem rea_apart {w : World} {lo hi n c lo2 hi2 n2 c2 : Nat} {A A2 : Option Addr} {l : List Rea} {es : List (El Rea)} {b : List Int} (h : Oe reaS w lo hi A n c es) (he : es.map (fun e : El Rea => e.x) = l) (ho : Ow 5 .u8 w lo2 hi2 A2 n2 c2 b) (hd : Dj es A2) :
    ∃ fp, OO rowRea w lo hi fp (.slice A n c) l ∧ ∀ q, q ∈ blks A2 → q ∉ fp := by
  have hes : (ues ux.reaV es).map (fun u : Ue Rea => u.x) = l := by rw [← he]; simp [ues]
  have hel : ∀ u ∈ ues ux.reaV es, rea.O w u.fp u.v u.x ∧ u.v.cells.size = rea.n ∧ u.v.cells.all (·.oneCell') = true := by
    intro u hu
    obtain ⟨f, hf, rfl⟩ := List.mem_map.1 hu
    have hb := h.body f hf
    exact ⟨⟨_, _, rfl, (ux.num_of hb).1, rfl, blks_two⟩, rfl, rea.one (w := w) (lo := lo) (hi := hi) ⟨h.hi_, _, rfl, ux.num_rd hb.rd⟩⟩
  have hq8 : ∀ q, q ∈ blks A2 → ∃ cur, w.heap[q]? = some (.cells cur 5 (0, 0)) := by
    intro q hq
    rcases ho.form with ⟨e0, _⟩ | ⟨g, cur, e0, _, _, h3, _⟩
    · rw [e0] at hq; cases hq
    · rw [e0] at hq
      have := ux.mem_one hq
      subst this
      exact ⟨cur, h3⟩
  rcases h.form with ⟨rfl, rfl, rfl⟩ | ⟨g, cur, rfl, g1, g2, g3, g4, g5, g6, g7⟩
  · have hl := h.len
    obtain rfl : es = [] := List.length_eq_zero_iff.1 hl
    exact ⟨[], ⟨⟨none, 0, 0, [], rfl, by rw [← he]; rfl, fun _ h => (by cases h), List.nodup_nil, .inl ⟨rfl, rfl, rfl, rfl, rfl⟩⟩, fun b hb => (by cases hb), h.hi_⟩, fun q _ hm => by cases hm⟩
  · have hin : ∀ b, b ∈ fps (ues ux.reaV es) → (lo ≤ b ∧ b < hi) ∧ b ≠ g := by
      intro b hb
      obtain ⟨e, hem, hbe⟩ := mem_body hb
      have ho := h.body e hem
      refine ⟨ux.ow_in ho b hbe, fun hbg => ?_⟩
      rcases ho.form with ⟨e0, _⟩ | ⟨q, cur2, e0, _, _, q3, _⟩
      · rw [e0] at hbe; cases hbe
      · rw [e0] at hbe
        have : b = q := ux.mem_one hbe
        subst this
        rw [hbg, g3] at q3
        injection q3 with q4
        injection q4 with _ q5
        exact reaS.ne q5
    refine ⟨g :: fps (ues ux.reaV es), ⟨⟨_, n, c, ues ux.reaV es, rfl, hes, hel, List.nodup_cons.2 ⟨fun hm => (hin g hm).2 rfl, nd_bodies h.ds⟩, .inr ⟨g, cur, rfl, g3, by rw [ues, List.length_map]; exact h.len, g4, g5, g6, g7.trans (rea_flt es), rfl⟩⟩, fun b hb => ?_, h.hi_⟩, fun q hq hm => ?_⟩
    · rcases List.mem_cons.1 hb with rfl | hb
      · exact ⟨g1, g2⟩
      · exact (hin b hb).1
    · rcases List.mem_cons.1 hm with rfl | hm
      · obtain ⟨cur2, h2⟩ := hq8 _ hq
        rw [g3] at h2
        injection h2 with h2
        injection h2 with _ h2
        exact reaS.ne h2
      · obtain ⟨e, hem, hbe⟩ := mem_body hm
        cases hA : e.A with
        | none => rw [hA] at hbe; cases hbe
        | some a =>
          cases hB : A2 with
          | none => rw [hB] at hq; cases hq
          | some a2 =>
            rw [hA] at hbe; rw [hB] at hq
            have k1 : q = a.block := by simpa [blks] using hbe
            have k2 : q = a2.block := by simpa [blks] using hq
            exact hd e hem a a2 hA hB (k1.symm.trans k2)
theorem sumT_set {α : Type} (g : α → Nat) : ∀ (l : List α) (i : Nat) (y : α), ux.sumT g (l.set i y) ≤ ux.sumT g l + g y
  | [], _, _ => by simp [ux.sumT]
  | a :: r, 0, y => by rw [List.set_cons_zero, ux.sumT_cons, ux.sumT_cons]; omega
  | a :: r, i + 1, y => by have := sumT_set g r i y; rw [List.set_cons_succ, ux.sumT_cons, ux.sumT_cons]; omega
theorem sz_set {l : List Rea} {i : Nat} {y : Rea} : rowRea.sz (l.set i y) ≤ rowRea.sz l + y.Body.length := by
  have h := sumT_set rea.sz l i y
  have e : rea.sz y = y.Body.length := rfl
  show (l.set i y).length + ux.sumT rea.sz (l.set i y) ≤ l.length + ux.sumT rea.sz l + y.Body.length
  rw [List.length_set]; omega
theorem sz_snoc {l : List Rea} {y : Rea} : rowRea.sz (l ++ [y]) ≤ rowRea.sz l + 1 + y.Body.length := by
  have e : rea.sz y = y.Body.length := rfl
  show (l ++ [y]).length + ux.sumT rea.sz (l ++ [y]) ≤ l.length + ux.sumT rea.sz l + 1 + y.Body.length
  rw [ux.sumT_snoc, List.length_append, List.length_singleton]; omega
theorem sz_erase {l : List Rea} {i : Nat} : rowRea.sz (l.eraseIdx i) ≤ rowRea.sz l := row_sub (List.eraseIdx_sublist _ _)
theorem sz_body {l : List Rea} {i : Nat} (h : i < l.length) : (l.getD i zr).Body.length ≤ rowRea.sz l := by
  have e : l.getD i zr = l[i] := by rw [List.getD_eq_getElem?_getD, List.getElem?_eq_getElem h]; rfl
  rw [e]
  have h1 : rea.sz l[i] ≤ rowRea.sz l := row_mem (List.getElem_mem h)
  exact h1
/-- What comes out is within the bound. -/
theorem add_sz {l l2 : List Rea} {f : Fra} {now : Int} {b : List Int} {d : Bool} (h : add l f now = (l2, b, d)) (h1 : rowRea.sz l ≤ 1048576) (h2 : fra.sz f ≤ 1048576) : rowRea.sz l2 ≤ 67108864 ∧ ux.bytes.sz b ≤ 67108864 := by
  have e2 : fra.sz f = f.Body.length := rfl
  show rowRea.sz l2 ≤ 67108864 ∧ b.length ≤ 67108864
  unfold add at h
  have hw : rowRea.sz (without l f.From) ≤ rowRea.sz l := sz_erase
  split at h
  · split at h
    · injection h with ha hb; injection hb with hb _
      subst ha hb
      have := sz_snoc (l := without l f.From) (y := start f now)
      have e3 : (start f now).Body.length = f.Body.length := rfl
      simp only [List.length_nil]; omega
    · injection h with ha hb; injection hb with hb _
      subst ha hb; omega
  · split at h
    · rename_i hc
      have hb0 := sz_body hc.2.1
      split at h
      · injection h with ha hb; injection hb with hb _
        subst ha hb
        have := sz_set (l := l) (i := fst l f.From) (y := { l.getD (fst l f.From) zr with Body := (l.getD (fst l f.From) zr).Body ++ f.Body, Next := IntKind.i64.wrap (f.Fragment + 1) })
        simp only [List.length_append] at this
        simp only [List.length_nil]; omega
      · injection h with ha hb; injection hb with hb _
        subst ha hb
        rw [List.length_append]; omega
    · injection h with ha hb; injection hb with hb _
      subst ha hb
      simp only [List.length_nil]; omega
end Go.Proofs.Ytbkdbdhbmabgcaa.fr
end

section
namespace Go.Proofs.Ytbkdbdhbmabgcaa.ux
open Go.RowKit sl harn bx stw
set_option linter.unusedVariables false
set_option linter.unusedSimpArgs false

structure Sen where
  From : Int
  Category : Int
  Seq : Int
  Fragment : Int
abbrev senV (x : Sen) : Value := .agg #[.int .i64 x.From, .int .i64 x.Category, .int .i64 x.Seq, .int .i64 x.Fragment]
theorem oneSen (y0 : Int) (y1 : Int) (y2 : Int) (y3 : Int) : (#[.int .i64 y0, .int .i64 y1, .int .i64 y2, .int .i64 y3] : Array Value).all (·.oneCell') = true :=
  all_oneCell_toArray (cs := [.int .i64 y0, .int .i64 y1, .int .i64 y2, .int .i64 y3]) (by intro v hv; simp only [List.mem_cons, List.not_mem_nil, or_false] at hv; rcases hv with rfl | rfl | rfl | rfl <;> rfl)
def sen : Rep Sen where
  n := 4
  R := fun w lo hi v x => hi ≤ w.heap.size ∧ v = senV x
  O := fun w fp v x => v = senV x ∧ fp = [] ∧ fp.Nodup
  sz := fun x => 0
  tot := fun x => 4
  mkx := fun q x => ⟨q, (q + 1), (q + 2), (q + 3)⟩
  pos := by omega
  len := fun ⟨hh, e⟩ => by subst e; rfl
  one := fun ⟨hh, e⟩ => by
    subst e
    exact oneSen _ _ _ _
  same := fun ⟨hh, e⟩ hs hb => ⟨by omega, e⟩
  hi_ := fun h => h.1
  osame := fun ⟨e, hf, hn⟩ hs hb => ⟨e, hf, hn⟩
  rd := fun ⟨e, hf, hn⟩ hb hh => ⟨hh, e⟩
  lt := fun ⟨e, hf, hn⟩ b hm => by
    rw [hf] at hm
    cases hm
  nd := fun ⟨e, hf, hn⟩ => hn
  tle := fun x => by
    show 4 ≤ 64 * (0) + 64
    omega
theorem sen_r {w : World} {lo hi : Nat} {v : Value} {x : Sen} (h : RR sen w lo hi v x) : v = senV x := h.2
theorem sen_rr {w : World} {lo hi : Nat} (x : Sen) (h : hi ≤ w.heap.size) : RR sen w lo hi (senV x) x := ⟨h, rfl⟩
theorem szSen : (Try.prog.info? 84).map (·.size) = some 4 := by kernel_rfl
def rowSen : Rep (List Sen) := row 84 sen
theorem rowSen_sl {w : World} {lo hi : Nat} {v : Value} {x : List Sen} (h : rowSen.R w lo hi v x) : ∃ A n c, v = .slice A n c := by
  obtain ⟨A, n, c, e, _⟩ := h
  exact ⟨A, n, c, e⟩
theorem rowSen_slo {w : World} {fp : List Nat} {v : Value} {x : List Sen} (h : rowSen.O w fp v x) : ∃ A n c, v = .slice A n c := by
  obtain ⟨A, n, c, es, e, _⟩ := h
  exact ⟨A, n, c, e⟩
theorem rowSen_tot (x : List Sen) : rowSen.tot x ≤ 64 * rowSen.sz x := row_tot _ _ x
end Go.Proofs.Ytbkdbdhbmabgcaa.ux
end

section
namespace Go.Proofs.Ytbkdbdhbmabgcaa.sn
open Go.RowKit sl harn bx mrw drk stw
set_option linter.unusedVariables false
set_option linter.unusedSimpArgs false
open ux (Sen Fra)

def zn : Sen := ⟨0, 0, 0, 0⟩
abbrev sV (x : Sen) : Value := .agg #[.int .i64 x.From, .int .i64 x.Category, .int .i64 x.Seq, .int .i64 x.Fragment]
def senS : Sh Sen where
  T := 84
  s := 4
  C := fun x _ _ _ => [.int .i64 x.From, .int .i64 x.Category, .int .i64 x.Seq, .int .i64 x.Fragment]
  B := fun _ => []
  len := fun _ _ _ _ => rfl
  one := fun x A n c u hu => by
    simp only [List.mem_cons, List.not_mem_nil, or_false] at hu
    rcases hu with rfl | rfl | rfl | rfl <;> rfl
  pos := by omega
  ne := by decide
def el (x : Sen) : El Sen := ⟨x, none, 0, 0⟩
def see (f : Fra) (k : Int) : Sen := ⟨f.From, k, f.Seq, f.Fragment⟩
def hit (a b : Int) (r : Sen) : Bool := r.From == a && r.Category == b
/-- The first remembered frame of a station and category. -/
def fst (l : List Sen) (a b : Int) : Nat := l.findIdx (hit a b)
def fidx (l : List Sen) (a b : Int) : Int := if fst l a b < l.length then fst l a b else -1
def rem (l : List Sen) (f : Fra) (k : Int) : List Sen := if fst l f.From k < l.length then l.set (fst l f.From k) (see f k) else l ++ [see f k]
def isd (l : List Sen) (f : Fra) (k : Int) : Bool := f.Retry && (decide (fst l f.From k < l.length) && ((l.getD (fst l f.From k) zn).Seq == f.Seq && (l.getD (fst l f.From k) zn).Fragment == f.Fragment))
def acc (l : List Sen) (f : Fra) (k : Int) : List Sen × Bool := if isd l f k = true then (l, false) else (rem l f k, true)
def inr (x : Sen) : Bool := decide (0 ≤ x.From ∧ x.From ≤ 15) && (decide (0 ≤ x.Category ∧ x.Category ≤ 3) && (decide (0 ≤ x.Seq ∧ x.Seq ≤ 4095) && decide (0 ≤ x.Fragment ∧ x.Fragment ≤ 15)))
def okAt (l : List Sen) (i : Nat) : Bool := inr (l.getD i zn) && fst l (l.getD i zn).From (l.getD i zn).Category == i
def vs (l : List Sen) : Bool := (List.range l.length).all (okAt l)
theorem hit_iff {a b : Int} {r : Sen} : hit a b r = true ↔ r.From = a ∧ r.Category = b := by simp [hit]
theorem getD_of {l : List Sen} {i : Nat} {x : Sen} (h : l[i]? = some x) : l.getD i zn = x := by rw [List.getD_eq_getElem?_getD, h]; rfl
theorem take_snoc {α : Type} {l : List α} {i : Nat} {x : α} (h : l[i]? = some x) : l.take (i + 1) = l.take i ++ [x] := by rw [List.take_add_one, h]; rfl
theorem fst_le (l : List Sen) (a b : Int) : fst l a b ≤ l.length := List.findIdx_le_length
theorem fst_hit {l : List Sen} {a b : Int} {k : Nat} {y : Sen} (hp : ∀ i, i < k → hit a b (l.getD i zn) = false) (hy : l[k]? = some y) (hx : hit a b y = true) : fst l a b = k := by
  have hk : k < l.length := by
    rcases Nat.lt_or_ge k l.length with h | h
    · exact h
    · rw [List.getElem?_eq_none h] at hy; cases hy
  have e : l[k] = y := (List.getElem?_eq_some_iff.1 hy).2
  unfold fst
  rw [List.findIdx_eq hk]
  refine ⟨by rw [e]; exact hx, fun j hj => ?_⟩
  have := hp j hj
  rw [List.getD_eq_getElem?_getD, List.getElem?_eq_getElem (by omega)] at this
  exact this
theorem fst_none {l : List Sen} {a b : Int} {k : Nat} (hp : ∀ i, i < k → hit a b (l.getD i zn) = false) (hk : l.length ≤ k) : fst l a b = l.length := by
  unfold fst
  rw [List.findIdx_eq_length]
  intro y hy
  obtain ⟨i, hi, e⟩ := List.getElem_of_mem hy
  have := hp i (by omega)
  rw [List.getD_eq_getElem?_getD, List.getElem?_eq_getElem hi] at this
  subst e
  exact this
theorem fst_at {l : List Sen} {a b : Int} (h : fst l a b < l.length) : hit a b (l.getD (fst l a b) zn) = true := by
  rw [List.getD_eq_getElem?_getD, List.getElem?_eq_getElem h]
  exact List.findIdx_getElem (w := h)
theorem nohit {l : List Sen} {a b : Int} {k : Nat} {y : Sen} (hp : ∀ i, i < k → hit a b (l.getD i zn) = false) (hy : l[k]? = some y) (hx : hit a b y = false) : ∀ i, i < k + 1 → hit a b (l.getD i zn) = false := by
  intro i hi
  rcases Nat.lt_or_ge i k with h | h
  · exact hp i h
  · obtain rfl : i = k := by omega
    rw [getD_of hy]; exact hx
theorem fst_before {l : List Sen} {a b : Int} {j : Nat} (hj : j < fst l a b) : hit a b (l.getD j zn) = false := by
  have h1 : j < l.length := Nat.lt_of_lt_of_le hj (fst_le l a b)
  rw [List.getD_eq_getElem?_getD, List.getElem?_eq_getElem h1]
  have := List.not_of_lt_findIdx hj
  simpa using this
theorem fidx_hit {l : List Sen} {a b : Int} {k : Nat} {y : Sen} (hp : ∀ i, i < k → hit a b (l.getD i zn) = false) (hy : l[k]? = some y) (hx : hit a b y = true) : fidx l a b = k := by
  have h := fst_hit hp hy hx
  have hk := (List.getElem?_eq_some_iff.1 hy).1
  unfold fidx
  rw [h, if_pos hk]
theorem fidx_none {l : List Sen} {a b : Int} {k : Nat} (hp : ∀ i, i < k → hit a b (l.getD i zn) = false) (hk : l.length ≤ k) : fidx l a b = -1 := by
  have h := fst_none hp hk
  unfold fidx
  rw [h, if_neg (by omega)]
theorem fidx_of {l : List Sen} {a b : Int} {k : Nat} (h : fst l a b = k) (hk : k < l.length) : fidx l a b = k := by
  unfold fidx
  rw [h, if_pos hk]
theorem fidx_no {l : List Sen} {a b : Int} (h : ¬ fst l a b < l.length) : fidx l a b = -1 := if_neg h
theorem isd_retry {l : List Sen} {f : Fra} {k : Int} (h : f.Retry = false) : isd l f k = false := by unfold isd; rw [h]; rfl
theorem isd_none {l : List Sen} {f : Fra} {k : Int} (h : ¬ fst l f.From k < l.length) : isd l f k = false := by
  unfold isd
  rw [decide_eq_false h]
  cases f.Retry <;> rfl
theorem isd_some {l : List Sen} {f : Fra} {k : Int} {i : Nat} {y : Sen} (hr : f.Retry = true) (hi : fst l f.From k = i) (hy : l[i]? = some y) : isd l f k = (y.Seq == f.Seq && y.Fragment == f.Fragment) := by
  have hk := (List.getElem?_eq_some_iff.1 hy).1
  unfold isd
  rw [hr, hi, getD_of hy, decide_eq_true hk]
  rfl
theorem rem_some {l : List Sen} {f : Fra} {k : Int} {i : Nat} (hi : fst l f.From k = i) (hk : i < l.length) : rem l f k = l.set i (see f k) := by
  unfold rem
  rw [hi, if_pos hk]
theorem rem_none {l : List Sen} {f : Fra} {k : Int} (h : ¬ fst l f.From k < l.length) : rem l f k = l ++ [see f k] := if_neg h
theorem acc_no {l : List Sen} {f : Fra} {k : Int} (h : isd l f k = true) : acc l f k = (l, false) := if_pos h
theorem acc_yes {l : List Sen} {f : Fra} {k : Int} (h : isd l f k = false) : acc l f k = (rem l f k, true) := if_neg (by rw [h]; simp)
theorem vs_no {l : List Sen} {i : Nat} (hi : i < l.length) (h : okAt l i = false) : vs l = false := by
  unfold vs
  rw [List.all_eq_false]
  exact ⟨i, List.mem_range.2 hi, by rw [h]; simp⟩
theorem vs_yes {l : List Sen} (h : ∀ i, i < l.length → okAt l i = true) : vs l = true := by
  unfold vs
  rw [List.all_eq_true]
  exact fun i hi => h i (List.mem_range.1 hi)
theorem vs_at {l : List Sen} (h : vs l = true) {i : Nat} (hi : i < l.length) : okAt l i = true := by
  unfold vs at h
  rw [List.all_eq_true] at h
  exact h i (List.mem_range.2 hi)

section
variable {w w' : World} {lo hi n cap : Nat} {A : Option Addr} {ms : List Sen}
theorem at_ {k : Nat} (h : Rq senS w lo hi A n cap ms) (hk : k < n) : ∃ b off x, A = some ⟨b, off, none⟩ ∧ ms[k]? = some x ∧ lo ≤ b ∧ b < hi ∧
    w.cell? ⟨b, off + k * 4, none⟩ = some (.int .i64 x.From) ∧ w.cell? ⟨b, off + k * 4 + 1, none⟩ = some (.int .i64 x.Category) ∧ w.cell? ⟨b, off + k * 4 + 2, none⟩ = some (.int .i64 x.Seq) ∧ w.cell? ⟨b, off + k * 4 + 3, none⟩ = some (.int .i64 x.Fragment) := by
  obtain ⟨b, off, x, e, hx, h1, h2, A', n', c', hr, hb⟩ := h.at_ hk
  exact ⟨b, off, x, e, hx, h1, h2, hr 0 _ rfl, hr 1 _ rfl, hr 2 _ rfl, hr 3 _ rfl⟩
theorem map_el (l : List Sen) : (l.map el).map (fun e : El Sen => e.x) = l := by
  rw [List.map_map]
  exact List.map_id' l
theorem oe_rq (h : Oe senS w lo hi A n cap (ms.map el)) : Rq senS w lo hi A n cap ms := by
  have h1 := h.rq
  rwa [map_el] at h1
theorem oe_n (h : Oe senS w lo hi A n cap (ms.map el)) : ms.length = n := by
  have h1 := h.len
  rwa [List.length_map] at h1
theorem rd0 (w : World) (lo hi : Nat) (h : hi ≤ w.heap.size) : Rd .u8 w lo hi none 0 0 [] := (bx.ow_none 5 .u8 w lo hi h).rd
theorem body0 (w : World) (lo hi : Nat) (h : hi ≤ w.heap.size) (l : List Sen) : ∀ e ∈ l.map el, Ow 5 .u8 w lo hi e.A e.n e.c (senS.B e.x) := by
  intro e he
  obtain ⟨x, _, rfl⟩ := List.mem_map.1 he
  exact bx.ow_none _ _ _ _ _ h
theorem ds0 (l : List Sen) : Ds (l.map el) := by
  refine List.pairwise_map.2 ?_
  exact List.Pairwise.imp (R := fun _ _ => True) (fun _ a b ha => by cases ha) (List.pairwise_of_forall (fun _ _ => trivial))
theorem src0 {b off : Nat} (h : Rq senS w lo hi (some ⟨b, off, none⟩) n cap ms) : ∀ j u, (flat senS (ms.map el))[j]? = some u → w.cell? ((⟨b, off, none⟩ : Addr).add j) = some u := by
  intro j u hu
  have hj : j < (flat senS (ms.map el)).length := (List.getElem?_eq_some_iff.1 hu).1
  rw [flat_len, List.length_map, show senS.s = 4 from rfl] at hj
  have hl := h.len
  have hi' : j / 4 < n := by omega
  obtain ⟨b1, off1, x, e, hx, _, _, A', n', c', hr, _⟩ := h.at_ hi'
  injection e with e; injection e with e1 e2 _
  subst e1 e2
  have he : (ms.map el)[j / 4]? = some (el x) := by rw [List.getElem?_map, hx]; rfl
  have hr4 : j % 4 < 4 := Nat.mod_lt _ (by omega)
  have hc : (cells senS (el x))[j % 4]? = some ((cells senS (el x))[j % 4]'(by rw [cells_len]; exact hr4)) := List.getElem?_eq_getElem _
  have h1 := flat_cell senS he hc
  have ej : j / 4 * senS.s + j % 4 = j := by show j / 4 * 4 + j % 4 = j; omega
  rw [ej, hu] at h1
  rw [← Option.some.inj h1] at hc
  have h2 := hr (j % 4) u hc
  have e2 : (⟨b, off, none⟩ : Addr).add j = ⟨b, off + j / 4 * senS.s + j % 4, none⟩ := by
    have : off + j / 4 * senS.s + j % 4 = off + j := by show off + j / 4 * 4 + j % 4 = off + j; omega
    rw [this]
    unfold Addr.add; split <;> simp_all
  rw [e2]
  exact h2
end
/-- A row appended onto a row of the call's own: only that row's block may change. -/
theorem more {P : Program} (t ty : TypeId) (i : TypeInfo) (z : Value) (h1 : P.underlying t = some (.slice senS.T)) (h2 : P.info? senS.T = some i) (h3 : i.zero = some z) (h4 : i.size = senS.s) (h5 : i.bytes ≤ 128) (h6 : z.cells.size = senS.s)
    {w : World} {lo hi lo2 hi2 n cap m c : Nat} {A B : Option Addr} {xs ys : List Sen} (h : Oe senS w lo hi A n cap (xs.map el)) (hr : Rq senS w lo2 hi2 B m c ys) (hn : n + m ≤ 1073741824) (hlo : lo ≤ w.heap.size) :
    ∃ A' cap' w', (Builtin.append_ #[t, t] ty #[.slice A n cap, .slice B m c]).run P w = .ok (.slice A' (n + m) cap') w' ∧ Oe senS w' lo w'.heap.size A' (n + m) cap' ((xs ++ ys).map el) ∧ w.grownBy w' (blkOf A) := by
  cases B with
  | none =>
    have hm : m = 0 := by
      rcases Nat.eq_zero_or_pos m with h | h
      · exact h
      · obtain ⟨b, off, x, e, _⟩ := hr.at_ h; cases e
    subst hm
    have hy : ys = [] := List.eq_nil_of_length_eq_zero hr.len
    subst hy
    refine ⟨A, cap, w, ?_, by simpa using h.up, grown_below (Below.refl _ _) _⟩
    rcases h.form with ⟨rfl, rfl, rfl⟩ | ⟨g, cur, rfl, _, _, _, hnc, _⟩
    · simp [Builtin.append_, run_underlying h1, sizeOf, typeInfo, h2, Builtin.lenOf, Builtin.firstCells]
    · simp [Builtin.append_, run_underlying h1, sizeOf, typeInfo, h2, Builtin.lenOf, Builtin.firstCells, hnc, storeCells]
  | some ad =>
    rcases Nat.eq_zero_or_pos m with h0 | h0
    · subst h0
      have hy : ys = [] := List.eq_nil_of_length_eq_zero hr.len
      subst hy
      obtain ⟨A', cap', w', hrun, g1, g2, _, _⟩ := h.more (P := P) t ty i z h1 h2 h3 h4 h5 h6 ad 0 c [] rfl (fun j u hu => by cases hu) (fun f hf => by cases hf) (by rw [List.append_nil]; exact ds0 xs) hn hlo
      exact ⟨A', cap', w', hrun, by rw [List.append_nil] at g1 ⊢; exact g1, g2⟩
    · obtain ⟨b, off, x, e, _⟩ := hr.at_ h0
      injection e with e
      subst e
      obtain ⟨A', cap', w', hrun, g1, g2, _, _⟩ := h.more (P := P) t ty i z h1 h2 h3 h4 h5 h6 ⟨b, off, none⟩ m c (ys.map el) (by rw [List.length_map]; exact hr.len) (src0 hr) (fun f hf => ⟨lo, lo, Nat.le_refl _, body0 w lo lo hlo ys f hf⟩) (by rw [← List.map_append]; exact ds0 _) hn hlo
      exact ⟨A', cap', w', hrun, by rw [List.map_append]; exact g1, g2⟩
/-- The walk's form. -/
theorem list_cat {P : Program} (w : World) {ops : Array Oper} {rest : List Oper} {o : Oper} {a : Act} {Q : Exit → Act → World → Prop} (hgd : o.guard = none) (s x : Operand) (t : TypeId)
    (hop : o.op = .call { callee := .builtin .append, args := #[s, x], argTypes := #[t, t] })
    {i : TypeInfo} {z : Value} (h1 : P.underlying t = some (.slice senS.T)) (h2 : P.info? senS.T = some i) (h3 : i.zero = some z) (h4 : i.size = senS.s) (h5 : i.bytes ≤ 128) (h6 : z.cells.size = senS.s)
    {lo hi lo2 hi2 n cap m c : Nat} {A B : Option Addr} {xs ys : List Sen} (hs : a.eval s = .slice A n cap) (hx : a.eval x = .slice B m c) (h : Oe senS w lo hi A n cap (xs.map el)) (hr : Rq senS w lo2 hi2 B m c ys) (hn : n + m ≤ 1073741824) (hlo : lo ≤ w.heap.size)
    (hK : ∀ A' cap' w', Oe senS w' lo w'.heap.size A' (n + m) cap' ((xs ++ ys).map el) → w.grownBy w' (blkOf A) → wpList P ops Q rest (a.put o.dst (.slice A' (n + m) cap')) w') : wpList P ops Q (o :: rest) a w := by
  refine wpList_plain hgd fun K hK' => ?_
  obtain ⟨A', cap', w', hrun, g1, g2⟩ := more (P := P) t o.type i z h1 h2 h3 h4 h5 h6 h hr hn hlo
  unfold Oper.wp execOp
  simp only [hop, resolve, invoke, builtin, Sem.run_bind, Sem.run_pure, Result.andThen_ok, List.map_toArray, List.map_cons, List.map_nil, hs, hx, hrun]
  exact hK' _ _ (hK A' cap' w' g1 g2)
theorem list_catE {P : Program} (w : World) {ops : Array Oper} {rest : List Oper} {o : Oper} {a : Act} {Q : Exit → Act → World → Prop} (hgd : o.guard = none) (s x : Operand) (t : TypeId)
    (hop : o.op = .call { callee := .builtin .append, args := #[s, x], argTypes := #[t, t] })
    {i : TypeInfo} {z : Value} (h1 : P.underlying t = some (.slice senS.T)) (h2 : P.info? senS.T = some i) (h3 : i.zero = some z) (h4 : i.size = senS.s) (h5 : i.bytes ≤ 128) (h6 : z.cells.size = senS.s)
    {lo2 hi2 m c : Nat} {B : Option Addr} {ys : List Sen} (hs : a.eval s = .slice (some ⟨w.heap.size, 0, none⟩) 0 0) (hx : a.eval x = .slice B m c) (hr : Rq senS w lo2 hi2 B m c ys) (hn : m ≤ 1073741824)
    (hK : ∀ A' cap' w', Oe senS w' w.heap.size w'.heap.size A' m cap' (ys.map el) → Below w.heap.size w w' → wpList P ops Q rest (a.put o.dst (.slice A' m cap')) w') : wpList P ops Q (o :: rest) a (w.alloc (.cells #[] 84)) := by
  have hb := bx.below_box w (.cells #[] 84)
  have he : Oe senS (w.alloc (.cells #[] 84)) w.heap.size (w.alloc (.cells #[] 84)).heap.size (some ⟨w.heap.size, 0, none⟩) 0 0 (([] : List Sen).map el) := (Oe.empty senS w).up
  refine list_cat _ hgd s x t hop h1 h2 h3 h4 h5 h6 hs hx he (hr.below hb) (by omega) (by simp) fun A' cap' w' ho hg => ?_
  rw [Nat.zero_add] at ho ⊢
  refine hK A' cap' w' (by simpa using ho) ?_
  exact hb.trans ⟨hg.os, hg.tape, hg.output, hg.size, fun k hk => hg.block k (by simp; omega) (fun e => by
    have e9 : k = w.heap.size := by simpa using e
    omega)⟩
/-- A slice of remembered frames of the call's own that is handed back. -/
def NnPost (l : List Sen) (w : World) (e : Ending) (w' : World) : Prop := ∃ A n cap, e = .returned (.slice A n cap) ∧ Oe senS w' w.heap.size w'.heap.size A n cap (l.map el) ∧ Below w.heap.size w w'
theorem nn_parts {l : List Sen} {w w' : World} {e : Ending} (h : NnPost l w e w') : ∃ A n cap, e = .returned (.slice A n cap) ∧ Oe senS w' w.heap.size w'.heap.size A n cap (l.map el) ∧ Below w.heap.size w w' := h
def AcPost (p : List Sen × Bool) (w : World) (e : Ending) (w' : World) : Prop := ∃ A n cap, e = .returned (.tuple #[.slice A n cap, .bool p.2]) ∧ Oe senS w' w.heap.size w'.heap.size A n cap (p.1.map el) ∧ Below w.heap.size w w'
theorem ac_parts {p : List Sen × Bool} {w w' : World} {e : Ending} (h : AcPost p w e w') : ∃ A n cap, e = .returned (.tuple #[.slice A n cap, .bool p.2]) ∧ Oe senS w' w.heap.size w'.heap.size A n cap (p.1.map el) ∧ Below w.heap.size w w' := h
theorem infoN : (Try.prog.info? 84).map (fun i => (i.zero, i.size, i.bytes)) = some (some (.agg #[.int .i64 0, .int .i64 0, .int .i64 0, .int .i64 0]), 4, 32) := by kernel_rfl
theorem szN : (Try.prog.info? 84).map (·.size) = some 4 := by kernel_rfl
theorem szK : (Try.prog.info? 88).map (·.size) = some 2 := by kernel_rfl
theorem oneN (a b c d : Int) : (#[.int .i64 a, .int .i64 b, .int .i64 c, .int .i64 d] : Array Value).all (·.oneCell') = true := ux.oneSen a b c d
theorem oneK (a b : Int) : (#[.int .i64 a, .int .i64 b] : Array Value).all (·.oneCell') = true :=
  all_oneCell_toArray (cs := [.int .i64 a, .int .i64 b]) (by intro v hv; simp only [List.mem_cons, List.not_mem_nil, or_false] at hv; rcases hv with rfl | rfl <;> rfl)
section
variable {w : World} {lo hi n c : Nat} {A : Option Addr} {l : List Sen}
open ux (RR OO rowSen sen Ue)
theorem sen_rq (h : RR rowSen w lo hi (.slice A n c) l) : Rq senS w lo hi A n c l := by
  obtain ⟨A', n', c', e, h1, h2, h3, h4, h5⟩ := h
  injection e with e1 e2 e3
  subst e1 e2 e3
  refine ⟨h1, h2, h3, h4, fun hn => ?_⟩
  obtain ⟨b, off, e, g1, g2, g3⟩ := h5 hn
  refine ⟨b, off, e, g1, g2, fun i x hx => ?_⟩
  obtain ⟨u, r1, r2⟩ := g3 i x hx
  obtain rfl := ux.sen_r (r2 : RR sen w lo hi u x)
  exact ⟨none, 0, 0, r1, rd0 w lo hi h4⟩
theorem sen_rr (h : Rq senS w lo hi A n c l) : RR rowSen w lo hi (.slice A n c) l := by
  obtain ⟨h1, h2, h3, h4, h5⟩ := h
  refine ⟨A, n, c, rfl, h1, h2, h3, h4, fun hn => ?_⟩
  obtain ⟨b, off, e, g1, g2, g3⟩ := h5 hn
  refine ⟨b, off, e, g1, g2, fun i x hx => ?_⟩
  obtain ⟨A0, n0, c0, r1, r2⟩ := g3 i x hx
  exact ⟨ux.senV x, r1, ux.sen_rr x h4⟩
def ue (x : Sen) : Ue Sen := ⟨[], ux.senV x, x⟩
theorem flt0 : ∀ l : List Sen, flat senS (l.map el) = ux.flt (l.map ue)
  | [] => rfl
  | x :: r => by
    have e1 : flat senS ((x :: r).map el) = cells senS (el x) ++ flat senS (r.map el) := rfl
    have e2 : ux.flt ((x :: r).map ue) = cells senS (el x) ++ ux.flt (r.map ue) := rfl
    rw [e1, e2, flt0 r]
theorem fps0 : ∀ l : List Sen, ux.fps (l.map ue) = []
  | [] => rfl
  | x :: r => by
    have e1 : ux.fps ((x :: r).map ue) = [] ++ ux.fps (r.map ue) := rfl
    rw [e1, fps0 r]; rfl
theorem sen_oo (h : Oe senS w lo hi A n c (l.map el)) : ∃ fp, OO rowSen w lo hi fp (.slice A n c) l := by
  have hes : (l.map ue).map (fun u : Ue Sen => u.x) = l := by rw [List.map_map]; exact List.map_id' l
  have hel : ∀ u ∈ l.map ue, sen.O w u.fp u.v u.x ∧ u.v.cells.size = sen.n ∧ u.v.cells.all (·.oneCell') = true := by
    intro u hu
    obtain ⟨x, _, rfl⟩ := List.mem_map.1 hu
    exact ⟨⟨rfl, rfl, List.nodup_nil⟩, rfl, ux.oneSen _ _ _ _⟩
  rcases h.form with ⟨rfl, rfl, rfl⟩ | ⟨g, cur, rfl, g1, g2, g3, g4, g5, g6, g7⟩
  · have hl := h.len
    rw [List.length_map] at hl
    obtain rfl : l = [] := List.length_eq_zero_iff.1 hl
    exact ⟨[], ⟨none, 0, 0, [], rfl, rfl, fun _ h => (by cases h), List.nodup_nil, .inl ⟨rfl, rfl, rfl, rfl, rfl⟩⟩, fun b hb => (by cases hb), h.hi_⟩
  · refine ⟨[g], ⟨_, n, c, l.map ue, rfl, hes, hel, by simp, .inr ⟨g, cur, rfl, g3, by rw [List.length_map]; exact oe_n h, g4, g5, g6, ?_, by rw [fps0]⟩⟩, fun b hb => ?_, h.hi_⟩
    · exact g7.trans (flt0 l)
    · obtain rfl : b = g := by simpa using hb
      exact ⟨g1, g2⟩
end
theorem rowSen_bd (l : List Sen) : ux.rowSen.tot l ≤ 64 * ux.rowSen.sz l := ux.rowSen_tot l
theorem row_len {l : List Sen} : ux.rowSen.sz l = l.length := by
  show l.length + ux.sumT ux.sen.sz l = l.length
  have h : ∀ x : Sen, ux.sen.sz x = 0 := fun _ => rfl
  rw [ux.sumT_zero h]; rfl
theorem rem_len (l : List Sen) (f : Fra) (k : Int) : (rem l f k).length ≤ l.length + 1 := by
  unfold rem
  split
  · rw [List.length_set]; omega
  · rw [List.length_append]; simp
theorem acc_len (l : List Sen) (f : Fra) (k : Int) : (acc l f k).1.length ≤ l.length + 1 := by
  unfold acc
  split
  · dsimp only; omega
  · exact rem_len l f k
theorem ac_out {l : List Sen} {d : Bool} {w w' : World} {e : Ending} (h : AcPost (l, d) w e w') : ∃ A n cap, e = .returned (.tuple #[.slice A n cap, .bool d]) ∧ Oe senS w' w.heap.size w'.heap.size A n cap (l.map el) ∧ Below w.heap.size w w' := h
end Go.Proofs.Ytbkdbdhbmabgcaa.sn
end
