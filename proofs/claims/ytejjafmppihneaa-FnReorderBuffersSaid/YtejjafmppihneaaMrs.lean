/- Rows of elements of several cells: an element stored behind the others, a cell changed, a slice of an element changed, an element removed. Condition: none. -/
import Derived.Test.YtejjafmppihneaaMrw
namespace Go.Proofs.Ytejjafmppihneaa.mrw
open Go.RowKit sl harn bx
set_option linter.unusedVariables false

/-- Cells written one behind the other. -/
def lay (cur : Array Value) : Nat → List Value → Array Value
  | _, [] => cur
  | o, v :: r => lay (cur.setIfInBounds o v) (o + 1) r
theorem lay_size : ∀ (vs : List Value) (cur : Array Value) (o : Nat), (lay cur o vs).size = cur.size
  | [], _, _ => rfl
  | v :: r, cur, o => by rw [lay, lay_size r]; simp
theorem lay_list : ∀ (vs : List Value) (cur : Array Value) (o : Nat), o + vs.length ≤ cur.size → (lay cur o vs).toList = cur.toList.take o ++ vs ++ cur.toList.drop (o + vs.length)
  | [], cur, o, h => by simp [lay]
  | v :: r, cur, o, h => by
    have hl : o < cur.toList.length := by simp at h ⊢; omega
    rw [lay, lay_list r _ _ (by simp at h ⊢; omega), Array.toList_setIfInBounds]
    have e1 : (cur.toList.set o v).take (o + 1) = cur.toList.take o ++ [v] := by
      rw [List.take_set, List.take_add_one, List.getElem?_eq_getElem hl]
      have hlt : (cur.toList.take o).length = o := by rw [List.length_take]; omega
      rw [List.set_append_right _ _ (by omega), hlt, Nat.sub_self]
      rfl
    have e2 : (cur.toList.set o v).drop (o + 1 + r.length) = cur.toList.drop (o + (v :: r).length) := by
      rw [List.drop_set, if_pos (by omega), List.length_cons]
      congr 1; omega
    rw [e1, e2]
    simp
theorem size_setCells (b : Nat) : ∀ (vs : List Value) (o : Nat) (w : World), (w.setCells b o vs).heap.size = w.heap.size
  | [], _, _ => rfl
  | v :: r, o, w => by rw [World.setCells, size_setCells b r]; simp [World.setCell]
theorem heap_setCells_ne {b k : Nat} (h : k ≠ b) : ∀ (vs : List Value) (o : Nat) (w : World), (w.setCells b o vs).heap[k]? = w.heap[k]?
  | [], _, _ => rfl
  | v :: r, o, w => by rw [World.setCells, heap_setCells_ne h r, Below.heap_setCell _ _ _ _ h]
theorem heap_setCells_same {b : Nat} {T : TypeId} : ∀ (vs : List Value) (o : Nat) (w : World) (cur : Array Value), w.heap[b]? = some (.cells cur T (0, 0)) → (w.setCells b o vs).heap[b]? = some (.cells (lay cur o vs) T (0, 0))
  | [], _, _, _, h => h
  | v :: r, o, w, cur, h => by
    rw [World.setCells, lay]
    exact heap_setCells_same r (o + 1) _ _ (heap_setCell_same w b o cur T v h)
theorem below_setCells {B b : Nat} {w0 : World} : ∀ (vs : List Value) (o : Nat) (w : World), Below B w0 w → B ≤ b → Below B w0 (w.setCells b o vs)
  | [], _, _, h, _ => h
  | v :: r, o, w, h, hB => by rw [World.setCells]; exact below_setCells r (o + 1) _ (h.setCell (p := ⟨b, o, none⟩) hB v) hB

section
variable {α : Type} {S : Sh α} {w w' : World} {lo hi n cap : Nat} {A : Option Addr} {xs : List α} {es : List (El α)}
theorem row_at {g : Nat} {T : TypeId} {s m : Nat} {l : List Value} (h : w.ownsRow lo T s (.slice (some ⟨g, 0, none⟩) m cap) m l) : ∃ cur, w.heap[g]? = some (.cells cur T (0, 0)) ∧ lo ≤ g ∧ m ≤ cap ∧ cap ≤ maxLen ∧ cur.size = cap * s ∧ cur.toList.take (m * s) = l := by
  rcases h.2 with ⟨e, _⟩ | ⟨g', c, cur, e, h1, h2, h3, h4, h5, h6⟩
  · cases e
  · injection e with e1 e2 e3
    injection e1 with e1; injection e1 with e1 _
    subst e1 e3
    exact ⟨cur, h2, h1, h3, h4, h5, h6⟩
theorem Oe.there {g : Nat} (h : Oe S w lo hi (some ⟨g, 0, none⟩) n cap es) {k : Nat} (hk : k < cap) : w.there g (k * S.s) S.s := by
  obtain ⟨cur, h1, _, _, _, h5, _⟩ := row_at h.row
  intro j hj
  have hlt : k * S.s + j < cur.size := by
    have := Nat.mul_le_mul_right S.s (show k + 1 ≤ cap by omega)
    rw [Nat.add_mul, Nat.one_mul] at this
    omega
  exact ⟨by rw [cell_of_row w g _ cur S.T (0, 0) h1]; simp; omega, frozen_of_row w g _ cur S.T h1⟩
/-- An element stored behind the others, within the capacity. -/
theorem Oe.put {g : Nat} (h : Oe S w lo hi (some ⟨g, 0, none⟩) n cap es) (hk : n < cap) (f : El α) {lo2 hi2 : Nat} (hf : Ow 5 .u8 w lo2 hi2 f.A f.n f.c (S.B f.x)) (hl : hi ≤ lo2) :
    Oe S (w.setCells g (n * S.s) (cells S f)) lo w.heap.size (some ⟨g, 0, none⟩) (n + 1) cap (es ++ [f]) := by
  obtain ⟨cur, h1, h2, h3, h4, h5, h6⟩ := row_at h.row
  have hgl := h.lt g 0 rfl
  have hcap : n * S.s + S.s ≤ cur.size := by
    have := Nat.mul_le_mul_right S.s (show n + 1 ≤ cap by omega)
    rw [Nat.add_mul, Nat.one_mul] at this
    omega
  have hsz := size_setCells g (cells S f) (n * S.s) w
  have kp : ∀ (e : El α) (l r : Nat), Ow 5 .u8 w l r e.A e.n e.c (S.B e.x) → Ow 5 .u8 (w.setCells g (n * S.s) (cells S f)) l r e.A e.n e.c (S.B e.x) := by
    intro e l r he
    obtain ⟨⟨q1, q2⟩, q3, q4, q5⟩ := he
    refine ⟨⟨q1, ?_⟩, q3, by omega, q5⟩
    rcases q2 with q2 | ⟨g', c', cur', e', r1, r2, r3⟩
    · exact Or.inl q2
    · refine Or.inr ⟨g', c', cur', e', r1, ?_, r3⟩
      rw [heap_setCells_ne (fun heq => by
        subst heq
        rw [h1] at r2
        simp only [Option.some.injEq, Obj.cells.injEq] at r2
        exact S.ne r2.2.1)]
      exact r2
  refine ⟨⟨by rw [flat_len, List.length_append, h.len]; rfl, .inr ⟨g, cap, _, rfl, h2, heap_setCells_same _ _ _ _ h1, by omega, h4, by rw [lay_size]; exact h5, ?_⟩⟩, fun e he => ?_, h.ds.push h.body hf hl, by omega, fun g' o e => by injection e with e; injection e with e _; subst e; have := h.hi_; omega⟩
  · rw [lay_list _ _ _ (by rw [cells_len]; exact hcap), cells_len, h6, Nat.add_mul, Nat.one_mul, flat_append]
    have e1 : flat S [f] = cells S f := by simp [flat]
    have hlen : (flat S es ++ cells S f).length = n * S.s + S.s := by rw [List.length_append, flat_len, cells_len, h.len]
    rw [e1, List.take_append_of_le_length (by omega), List.take_of_length_le (by omega)]
  · rw [← hsz]
    rcases List.mem_append.1 he with he | he
    · exact (kp e lo hi (h.body e he)).up
    · obtain rfl : e = f := by simpa using he
      exact (kp e lo2 hi2 hf).up.down (by omega)
/-- Cells behind the elements changed. -/
theorem Oe.tail {g : Nat} (h : Oe S w lo hi (some ⟨g, 0, none⟩) n cap es) {o : Nat} (ho : n * S.s ≤ o) (vs : List Value) (hv : o + vs.length ≤ cap * S.s) : Oe S (w.setCells g o vs) lo hi (some ⟨g, 0, none⟩) n cap es := by
  obtain ⟨cur, h1, h2, h3, h4, h5, h6⟩ := row_at h.row
  have hsz := size_setCells g vs o w
  refine ⟨⟨h.row.1, .inr ⟨g, cap, _, rfl, h2, heap_setCells_same _ _ _ _ h1, h3, h4, by rw [lay_size]; exact h5, ?_⟩⟩, fun e he => ?_, h.ds, by have := h.hi_; omega, h.lt⟩
  · rw [lay_list _ _ _ (by omega), ← h6, List.append_assoc, List.take_append_of_le_length (by rw [List.length_take]; simp; omega), List.take_take, Nat.min_eq_left ho]
  · obtain ⟨⟨q1, q2⟩, q3, q4, q5⟩ := h.body e he
    refine ⟨⟨q1, ?_⟩, q3, by omega, q5⟩
    rcases q2 with q2 | ⟨g', c', cur', e', r1, r2, r3⟩
    · exact Or.inl q2
    · refine Or.inr ⟨g', c', cur', e', r1, ?_, r3⟩
      rw [heap_setCells_ne (fun heq => by
        subst heq
        rw [h1] at r2
        simp only [Option.some.injEq, Obj.cells.injEq] at r2
        exact S.ne r2.2.1)]
      exact r2
theorem set_pairwise {es : List (El α)} (h : Ds es) {i : Nat} {e f : El α} (he : es[i]? = some e) (hA : f.A = e.A) : Ds (es.set i f) := by
  have hi : i < es.length := (List.getElem?_eq_some_iff.1 he).1
  have hv : es[i] = e := (List.getElem?_eq_some_iff.1 he).2
  unfold Ds at h ⊢
  rw [List.pairwise_iff_getElem] at h ⊢
  intro a b ha hb hab
  have ha' : a < es.length := by simpa using ha
  have hb' : b < es.length := by simpa using hb
  have h0 := h a b ha' hb' hab
  have hAa : (es.set i f)[a].A = es[a].A := by
    rw [List.getElem_set]
    split
    · rename_i heq; subst heq; rw [hA, ← hv]
    · rfl
  have hAb : (es.set i f)[b].A = es[b].A := by
    rw [List.getElem_set]
    split
    · rename_i heq; subst heq; rw [hA, ← hv]
    · rfl
  rw [hAa, hAb]
  exact h0
theorem flat_set {es : List (El α)} {i : Nat} {e f : El α} (he : es[i]? = some e) {j : Nat} {v : Value} (hj : j < S.s) (hC : cells S f = (cells S e).set j v) : flat S (es.set i f) = (flat S es).set (i * S.s + j) v := by
  have hi : i < es.length := (List.getElem?_eq_some_iff.1 he).1
  have hv : es[i] = e := (List.getElem?_eq_some_iff.1 he).2
  have e0 : es = es.take i ++ e :: es.drop (i + 1) := by rw [← hv, ← List.drop_eq_getElem_cons hi, List.take_append_drop]
  have hlt : (es.take i).length = i := by rw [List.length_take]; omega
  have e1 : es.set i f = es.take i ++ f :: es.drop (i + 1) := by
    conv => lhs; rw [e0]
    rw [List.set_append_right _ _ (by omega), hlt, Nat.sub_self]
    rfl
  have c1 : ∀ (x : El α) (r : List (El α)), flat S (x :: r) = cells S x ++ flat S r := fun _ _ => rfl
  rw [e1, flat_append, c1, hC]
  conv => rhs; rw [e0, flat_append, c1]
  rw [List.set_append_right _ _ (by rw [flat_len, hlt]; omega), flat_len, hlt, Nat.add_sub_cancel_left, List.set_append_left _ _ (by rw [cells_len]; exact hj)]
/-- One cell of an element changed. -/
theorem Oe.cell {g : Nat} (h : Oe S w lo hi (some ⟨g, 0, none⟩) n cap es) {i : Nat} {e : El α} (he : es[i]? = some e) (x' : α) {j : Nat} (v : Value) (hj : j < S.s) (hC : S.C x' e.A e.n e.c = (S.C e.x e.A e.n e.c).set j v) (hB : S.B x' = S.B e.x) :
    Oe S (w.setCell ⟨g, i * S.s + j, none⟩ v) lo hi (some ⟨g, 0, none⟩) n cap (es.set i ⟨x', e.A, e.n, e.c⟩) := by
  have hs := (h.row.stored (i * S.s + j) v).1
  rw [← flat_set (S := S) (f := ⟨x', e.A, e.n, e.c⟩) he hj hC] at hs
  obtain ⟨cur, h1, h2, h3, h4, h5, h6⟩ := row_at h.row
  refine ⟨hs, fun f hf => ?_, set_pairwise h.ds he rfl, by have := h.hi_; simpa [World.setCell] using this, h.lt⟩
  have hfo : Ow 5 .u8 w lo hi f.A f.n f.c (S.B f.x) := by
    rcases List.mem_or_eq_of_mem_set hf with hf | hf
    · exact h.body f hf
    · subst hf
      show Ow 5 .u8 w lo hi e.A e.n e.c (S.B x')
      rw [hB]; exact h.body e (List.mem_of_getElem? he)
  obtain ⟨⟨q1, q2⟩, q3, q4, q5⟩ := hfo
  refine ⟨⟨q1, ?_⟩, q3, by simpa [World.setCell] using q4, q5⟩
  rcases q2 with q2 | ⟨g', c', cur', e', r1, r2, r3⟩
  · exact Or.inl q2
  · refine Or.inr ⟨g', c', cur', e', r1, ?_, r3⟩
    rw [Below.heap_setCell _ _ _ _ (show g' ≠ g from fun heq => by
      subst heq
      rw [h1] at r2
      simp only [Option.some.injEq, Obj.cells.injEq] at r2
      exact S.ne r2.2.1)]
    exact r2
/-- The slice of an element, narrowed to its own block; changed there. -/
theorem Oe.part (h : Oe S w lo hi A n cap es) {i : Nat} {e : El α} (he : es[i]? = some e) : ∃ l r, lo ≤ l ∧ r ≤ hi ∧ Ow 5 .u8 w l r e.A e.n e.c (S.B e.x) ∧
    ∀ (w' : World) (zs : List Int) (x' : α), Tch l r w w' → Ow 5 .u8 w' l r e.A e.n e.c zs → S.B x' = zs → S.C x' e.A e.n e.c = S.C e.x e.A e.n e.c → Oe S w' lo hi A n cap (es.set i ⟨x', e.A, e.n, e.c⟩) ∧ Tch lo hi w w' := by
  have hin : i < es.length := (List.getElem?_eq_some_iff.1 he).1
  obtain ⟨g, rfl, hg1, hg2, _⟩ := h.at_ he
  obtain ⟨cur, h1, h2, h3, h4, h5, h6⟩ := row_at h.row
  have hmem := List.mem_of_getElem? he
  have ho := h.body e hmem
  have fin : ∀ l r, lo ≤ l → r ≤ hi → (∀ q, l ≤ q → q < r → ∃ a, e.A = some a ∧ a.block = q) → Ow 5 .u8 w l r e.A e.n e.c (S.B e.x) →
      ∀ (w' : World) (zs : List Int) (x' : α), Tch l r w w' → Ow 5 .u8 w' l r e.A e.n e.c zs → S.B x' = zs → S.C x' e.A e.n e.c = S.C e.x e.A e.n e.c → Oe S w' lo hi (some ⟨g, 0, none⟩) n cap (es.set i ⟨x', e.A, e.n, e.c⟩) ∧ Tch lo hi w w' := by
    intro l r hl hr hq hnar w' zs x' ht hw hB hC
    have hgq : g < l ∨ r ≤ g := by
      rcases Nat.lt_or_ge g l with hlt | hge
      · exact Or.inl hlt
      · rcases Nat.lt_or_ge g r with hlt2 | hge2
        · exfalso
          obtain ⟨a, ha, hb⟩ := hq g hge hlt2
          rcases hnar.form with ⟨k0, _⟩ | ⟨g', cur', k0, _, _, k3, _⟩
          · rw [k0] at ha; cases ha
          · rw [k0] at ha
            obtain rfl := Option.some.inj ha
            have hb' : g' = g := hb
            subst hb'
            rw [h1] at k3
            simp only [Option.some.injEq, Obj.cells.injEq] at k3
            exact S.ne k3.2.1
        · exact Or.inr hge2
    have hfl : flat S (es.set i ⟨x', e.A, e.n, e.c⟩) = flat S es := by
      have e1 : cells S ⟨x', e.A, e.n, e.c⟩ = (cells S e).set 0 ((cells S e)[0]'(by rw [cells_len]; exact S.pos)) := by
        rw [List.set_getElem_self]; exact hC
      rw [flat_set (S := S) he S.pos e1]
      have := flat_cell S he (List.getElem?_eq_getElem (show 0 < (cells S e).length by rw [cells_len]; exact S.pos))
      apply List.ext_getElem?
      intro q
      rw [List.getElem?_set]
      split
      · rename_i heq
        subst heq
        split
        · exact this.symm
        · rename_i hge; rw [List.getElem?_eq_none (by omega)]
      · rfl
    have hrow : w'.ownsRow lo S.T S.s (.slice (some ⟨g, 0, none⟩) n cap) n (flat S (es.set i ⟨x', e.A, e.n, e.c⟩)) := by
      rw [hfl]
      refine ⟨h.row.1, .inr ⟨g, cap, cur, rfl, h2, ?_, h3, h4, h5, h6⟩⟩
      rw [ht.block g (by have := h.hi_; omega) (by omega)]; exact h1
    refine ⟨⟨hrow, fun f hf => ?_, set_pairwise h.ds he rfl, by have := h.hi_; have := ht.size; omega, h.lt⟩, ⟨ht.os, ht.tape, ht.output, ht.size, fun q hq1 hq2 => ht.block q hq1 (by omega)⟩⟩
    obtain ⟨a, ha, hfa⟩ := List.getElem_of_mem hf
    have ha' : a < es.length := by simpa using ha
    rw [List.getElem_set] at hfa
    split at hfa
    · subst hfa
      show Ow 5 .u8 w' lo hi e.A e.n e.c (S.B x')
      rw [hB]
      obtain ⟨q1, q2, q3, q4⟩ := hw
      refine ⟨row_down q1 hl, q2, by have := h.hi_; have := ht.size; omega, fun g' o e' => by have := q4 g' o e'; omega⟩
    · rename_i hne
      subst hfa
      have hfo := h.body es[a] (List.getElem_mem ha')
      obtain ⟨⟨q1, q2⟩, q3, q4, q5⟩ := hfo
      refine ⟨⟨q1, ?_⟩, q3, by have := ht.size; omega, q5⟩
      rcases q2 with q2 | ⟨g', c', cur', e', r1, r2, r3⟩
      · exact Or.inl q2
      · refine Or.inr ⟨g', c', cur', e', r1, ?_, r3⟩
        injection e' with e1' e2' e3'
        rw [ht.block g' (lt_of_block r2) ?_]
        · exact r2
        · rcases Nat.lt_or_ge g' l with hlt | hge
          · exact Or.inl hlt
          · rcases Nat.lt_or_ge g' r with hlt2 | hge2
            · exfalso
              obtain ⟨a0, ha0, hb0⟩ := hq g' hge hlt2
              have hd := h.ds
              unfold Ds at hd
              rw [List.pairwise_iff_getElem] at hd
              have hie : es[i] = e := (List.getElem?_eq_some_iff.1 he).2
              rcases Nat.lt_or_gt_of_ne hne with hlt3 | hgt3
              · have := hd i a hin ha' hlt3
                rw [hie] at this
                exact this a0 ⟨g', 0, none⟩ ha0 e1' hb0
              · have := hd a i ha' hin hgt3
                rw [hie] at this
                exact this ⟨g', 0, none⟩ a0 e1' ha0 hb0.symm
            · exact Or.inr hge2
  rcases ho.form with ⟨k0, k1, k2⟩ | ⟨q, cq, k0, k1, k2, k3, _⟩
  · have hz : S.B e.x = [] := List.eq_nil_of_length_eq_zero (by rw [ho.len, k1])
    have hnar : Ow 5 .u8 w hi hi e.A e.n e.c (S.B e.x) := by rw [k0, k1, k2, hz]; exact Ow.nil_ _ _ _ _ _ h.hi_
    exact ⟨hi, hi, by omega, Nat.le_refl _, hnar, fin hi hi (by omega) (Nat.le_refl _) (fun q h1 h2 => by omega) hnar⟩
  · have hnar : Ow 5 .u8 w q (q + 1) e.A e.n e.c (S.B e.x) := by
      obtain ⟨⟨p1, p2⟩, p3, p4, p5⟩ := ho
      refine ⟨⟨p1, ?_⟩, p3, by have := h.hi_; omega, fun g' o e' => by rw [k0] at e'; injection e' with e'; injection e' with e' _; omega⟩
      rcases p2 with p2 | ⟨g', c', cur', e', r1, r2, r3⟩
      · exact Or.inl p2
      · injection e' with e1' e2' e3'
        rw [k0] at e1'; injection e1' with e1'; injection e1' with e1' _
        subst e1'
        exact Or.inr ⟨q, c', cur', by rw [k0, e3'], Nat.le_refl _, r2, r3⟩
    exact ⟨q, q + 1, k1, by omega, hnar, fin q (q + 1) k1 (by omega) (fun q' h1 h2 => ⟨_, k0, by show q = q'; omega⟩) hnar⟩
end
/-- Cells stored at a place, as the walk meets it. -/
theorem list_storeAt {P : Program} {ops : Array Oper} {rest : List Oper} {dst : Option Tmp} {tp : TypeId} {ps : String} {af : Array Edge} {a : Act} {w : World} {Q : Exit → Act → World → Prop} {ty : TypeId} {x y : Operand}
    (b o : Nat) (cs : Array Value) (ht : w.there b o cs.size) (hi : (P.info? ty).map (·.size) = some cs.size) (h1 : cs.all (·.oneCell') = true) (hx : a.eval x = .pointer (some ⟨b, o, none⟩)) (hy : a.eval y = .agg cs)
    (h : wpList P ops Q rest (a.put dst undef) (w.setCells b o cs.toList)) : wpList P ops Q ({ dst := dst, op := .store ty x y, type := tp, pos := ps, after := af, guard := none } :: rest) a w :=
  wpList_store_mid rfl ty x y rfl b o cs hx hy ht hi h1 h
end Go.Proofs.Ytejjafmppihneaa.mrw
