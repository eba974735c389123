/- Rows of elements of several cells: an element's slice narrowed to its own block, and what stays when it is changed. Condition: none. -/
import Derived.Test.YtjmenbpalihnnaaMrs
namespace Go.Proofs.Ytjmenbpalihnnaa.mrw
open Go.RowKit sl harn bx
set_option linter.unusedVariables false
section
variable {α : Type} {S : Sh α} {w w' : World} {lo hi n cap : Nat} {A : Option Addr} {xs : List α} {es : List (El α)}
/-- The slice of an element, narrowed to its own block; changed there. -/
theorem Oe.part2 (h : Oe S w lo hi A n cap es) {i : Nat} {e : El α} (he : es[i]? = some e) : ∃ l r, lo ≤ l ∧ r ≤ hi ∧ (∀ q, l ≤ q → q < r → ∃ a, e.A = some a ∧ a.block = q) ∧ Ow 5 .u8 w l r e.A e.n e.c (S.B e.x) ∧
    ∀ (w' : World) (zs : List Int) (x' : α), Tch l r w w' → Ow 5 .u8 w' l r e.A e.n e.c zs → S.B x' = zs → S.C x' e.A e.n e.c = S.C e.x e.A e.n e.c → Oe S w' lo hi A n cap (es.set i ⟨x', e.A, e.n, e.c⟩) ∧ Tch lo hi w w' := by
  have hin : i < es.length := (List.getElem?_eq_some_iff.1 he).1
  obtain ⟨g, rfl, hg1, hg2, _⟩ := h.at_ he
  obtain ⟨cur, h1, h2, h3, h4, h5, h6⟩ := row_at h.row
  have hmem := List.mem_of_getElem? he
  have ho := h.body e hmem
  have fin : ∀ l r, lo ≤ l → r ≤ hi → (∀ q, l ≤ q → q < r → ∃ a, e.A = some a ∧ a.block = q) → Ow 5 .u8 w l r e.A e.n e.c (S.B e.x) →
      ∀ (w' : World) (zs : List Int) (x' : α), Tch l r w w' → Ow 5 .u8 w' l r e.A e.n e.c zs → S.B x' = zs → S.C x' e.A e.n e.c = S.C e.x e.A e.n e.c → Oe S w' lo hi (some ⟨g, 0, none⟩) n cap (es.set i ⟨x', e.A, e.n, e.c⟩) ∧ Tch lo hi w w' := by
    intro l r hl hr hq hnar w' zs x' ht hw hB hC
    have hgq : g < l ∨ r ≤ g := by
      rcases Nat.lt_or_ge g l with hlt | hge
      · exact Or.inl hlt
      · rcases Nat.lt_or_ge g r with hlt2 | hge2
        · exfalso
          obtain ⟨a, ha, hb⟩ := hq g hge hlt2
          rcases hnar.form with ⟨k0, _⟩ | ⟨g', cur', k0, _, _, k3, _⟩
          · rw [k0] at ha; cases ha
          · rw [k0] at ha
            obtain rfl := Option.some.inj ha
            have hb' : g' = g := hb
            subst hb'
            rw [h1] at k3
            simp only [Option.some.injEq, Obj.cells.injEq] at k3
            exact S.ne k3.2.1
        · exact Or.inr hge2
    have hfl : flat S (es.set i ⟨x', e.A, e.n, e.c⟩) = flat S es := by
      have e1 : cells S ⟨x', e.A, e.n, e.c⟩ = (cells S e).set 0 ((cells S e)[0]'(by rw [cells_len]; exact S.pos)) := by
        rw [List.set_getElem_self]; exact hC
      rw [flat_set (S := S) he S.pos e1]
      have := flat_cell S he (List.getElem?_eq_getElem (show 0 < (cells S e).length by rw [cells_len]; exact S.pos))
      apply List.ext_getElem?
      intro q
      rw [List.getElem?_set]
      split
      · rename_i heq
        subst heq
        split
        · exact this.symm
        · rename_i hge; rw [List.getElem?_eq_none (by omega)]
      · rfl
    have hrow : w'.ownsRow lo S.T S.s (.slice (some ⟨g, 0, none⟩) n cap) n (flat S (es.set i ⟨x', e.A, e.n, e.c⟩)) := by
      rw [hfl]
      refine ⟨h.row.1, .inr ⟨g, cap, cur, rfl, h2, ?_, h3, h4, h5, h6⟩⟩
      rw [ht.block g (by have := h.hi_; omega) (by omega)]; exact h1
    refine ⟨⟨hrow, fun f hf => ?_, set_pairwise h.ds he rfl, by have := h.hi_; have := ht.size; omega, h.lt⟩, ⟨ht.os, ht.tape, ht.output, ht.size, fun q hq1 hq2 => ht.block q hq1 (by omega)⟩⟩
    obtain ⟨a, ha, hfa⟩ := List.getElem_of_mem hf
    have ha' : a < es.length := by simpa using ha
    rw [List.getElem_set] at hfa
    split at hfa
    · subst hfa
      show Ow 5 .u8 w' lo hi e.A e.n e.c (S.B x')
      rw [hB]
      obtain ⟨q1, q2, q3, q4⟩ := hw
      refine ⟨row_down q1 hl, q2, by have := h.hi_; have := ht.size; omega, fun g' o e' => by have := q4 g' o e'; omega⟩
    · rename_i hne
      subst hfa
      have hfo := h.body es[a] (List.getElem_mem ha')
      obtain ⟨⟨q1, q2⟩, q3, q4, q5⟩ := hfo
      refine ⟨⟨q1, ?_⟩, q3, by have := ht.size; omega, q5⟩
      rcases q2 with q2 | ⟨g', c', cur', e', r1, r2, r3⟩
      · exact Or.inl q2
      · refine Or.inr ⟨g', c', cur', e', r1, ?_, r3⟩
        injection e' with e1' e2' e3'
        rw [ht.block g' (lt_of_block r2) ?_]
        · exact r2
        · rcases Nat.lt_or_ge g' l with hlt | hge
          · exact Or.inl hlt
          · rcases Nat.lt_or_ge g' r with hlt2 | hge2
            · exfalso
              obtain ⟨a0, ha0, hb0⟩ := hq g' hge hlt2
              have hd := h.ds
              unfold Ds at hd
              rw [List.pairwise_iff_getElem] at hd
              have hie : es[i] = e := (List.getElem?_eq_some_iff.1 he).2
              rcases Nat.lt_or_gt_of_ne hne with hlt3 | hgt3
              · have := hd i a hin ha' hlt3
                rw [hie] at this
                exact this a0 ⟨g', 0, none⟩ ha0 e1' hb0
              · have := hd a i ha' hin hgt3
                rw [hie] at this
                exact this ⟨g', 0, none⟩ a0 e1' ha0 hb0.symm
            · exact Or.inr hge2
  rcases ho.form with ⟨k0, k1, k2⟩ | ⟨q, cq, k0, k1, k2, k3, _⟩
  · have hz : S.B e.x = [] := List.eq_nil_of_length_eq_zero (by rw [ho.len, k1])
    have hnar : Ow 5 .u8 w hi hi e.A e.n e.c (S.B e.x) := by rw [k0, k1, k2, hz]; exact Ow.nil_ _ _ _ _ _ h.hi_
    exact ⟨hi, hi, by omega, Nat.le_refl _, fun q h1 h2 => by omega, hnar, fin hi hi (by omega) (Nat.le_refl _) (fun q h1 h2 => by omega) hnar⟩
  · have hnar : Ow 5 .u8 w q (q + 1) e.A e.n e.c (S.B e.x) := by
      obtain ⟨⟨p1, p2⟩, p3, p4, p5⟩ := ho
      refine ⟨⟨p1, ?_⟩, p3, by have := h.hi_; omega, fun g' o e' => by rw [k0] at e'; injection e' with e'; injection e' with e' _; omega⟩
      rcases p2 with p2 | ⟨g', c', cur', e', r1, r2, r3⟩
      · exact Or.inl p2
      · injection e' with e1' e2' e3'
        rw [k0] at e1'; injection e1' with e1'; injection e1' with e1' _
        subst e1'
        exact Or.inr ⟨q, c', cur', by rw [k0, e3'], Nat.le_refl _, r2, r3⟩
    exact ⟨q, q + 1, k1, by omega, fun q' h1 h2 => ⟨_, k0, by show q = q'; omega⟩, hnar, fin q (q + 1) k1 (by omega) (fun q' h1 h2 => ⟨_, k0, by show q = q'; omega⟩) hnar⟩
end

section
variable {α : Type} {S : Sh α} {w w' : World} {lo hi n cap : Nat} {A : Option Addr} {es : List (El α)}
/-- Bytes of the call's own stay when a cell of a row changes. -/
theorem ow_row_set {g l r m c : Nat} {B : Option Addr} {zs : List Int} (h : Oe S w lo hi (some ⟨g, 0, none⟩) n cap es) (hf : Ow 5 .u8 w l r B m c zs) (j : Nat) (v : Value) : Ow 5 .u8 (w.setCell ⟨g, j, none⟩ v) l r B m c zs := by
  obtain ⟨cur, h1, _⟩ := row_at h.row
  obtain ⟨⟨q1, q2⟩, q3, q4, q5⟩ := hf
  refine ⟨⟨q1, ?_⟩, q3, by simpa [World.setCell] using q4, q5⟩
  rcases q2 with q2 | ⟨g', c', cur', e', r1, r2, r3⟩
  · exact Or.inl q2
  · refine Or.inr ⟨g', c', cur', e', r1, ?_, r3⟩
    rw [Below.heap_setCell _ _ _ _ (show g' ≠ g from fun heq => by
      subst heq
      rw [h1] at r2
      simp only [Option.some.injEq, Obj.cells.injEq] at r2
      exact S.ne r2.2.1)]
    exact r2
/-- Bytes of the call's own stay when other bytes change. -/
theorem ow_apart {a b l r m c : Nat} {B E : Option Addr} {zs : List Int} (hf : Ow 5 .u8 w l r B m c zs) (ht : Tch a b w w') (hq : ∀ q, a ≤ q → q < b → ∃ ad, E = some ad ∧ ad.block = q) (hd : ∀ x y, E = some x → B = some y → x.block ≠ y.block) : Ow 5 .u8 w' l r B m c zs := by
  obtain ⟨⟨q1, q2⟩, q3, q4, q5⟩ := hf
  refine ⟨⟨q1, ?_⟩, q3, by have := ht.size; omega, q5⟩
  rcases q2 with q2 | ⟨g', c', cur', e', r1, r2, r3⟩
  · exact Or.inl q2
  · refine Or.inr ⟨g', c', cur', e', r1, ?_, r3⟩
    injection e' with e1' e2' e3'
    rw [ht.block g' (lt_of_block r2) ?_]
    · exact r2
    · rcases Nat.lt_or_ge g' a with h1 | h1
      · exact Or.inl h1
      · rcases Nat.lt_or_ge g' b with h2 | h2
        · exfalso
          obtain ⟨ad, h3, h4⟩ := hq g' h1 h2
          exact hd ad ⟨g', 0, none⟩ h3 e1' h4
        · exact Or.inr h2
theorem ds_apart {f e : El α} {i : Nat} (h : Ds (es ++ [f])) (he : es[i]? = some e) : ∀ x y, e.A = some x → f.A = some y → x.block ≠ y.block := fun x y hx hy =>
  (List.pairwise_append.1 h).2.2 e (List.mem_of_getElem? he) f (by simp) x y hx hy
theorem ds_set {f e e' : El α} {i : Nat} (h : Ds (es ++ [f])) (he : es[i]? = some e) (hA : e'.A = e.A) : Ds (es.set i e' ++ [f]) := by
  have hi : i < es.length := (List.getElem?_eq_some_iff.1 he).1
  have := set_pairwise h (i := i) (e := e) (f := e') (by rw [List.getElem?_append_left hi]; exact he) hA
  rwa [List.set_append_left _ _ hi] at this
/-- Bytes of the call's own, narrowed to their own block. -/
theorem ow_narrow {m c : Nat} {B : Option Addr} {zs : List Int} (hf : Ow 5 .u8 w lo hi B m c zs) (hl : lo ≤ hi) : ∃ l r, lo ≤ l ∧ r ≤ hi ∧ (∀ q, l ≤ q → q < r → ∃ a, B = some a ∧ a.block = q) ∧ Ow 5 .u8 w l r B m c zs := by
  rcases hf.form with ⟨k0, k1, k2⟩ | ⟨q, cq, k0, k1, k2, k3, _⟩
  · have hz : zs = [] := List.eq_nil_of_length_eq_zero (by rw [hf.len, k1])
    exact ⟨hi, hi, hl, Nat.le_refl _, fun q h1 h2 => by omega, by rw [k0, k1, k2, hz]; exact Ow.nil_ _ _ _ _ _ hf.hi_⟩
  · have hh := hf.hi_
    refine ⟨q, q + 1, k1, by omega, fun q' h1 h2 => ⟨_, k0, by show q = q'; omega⟩, ?_⟩
    obtain ⟨⟨p1, p2⟩, p3, p4, p5⟩ := hf
    refine ⟨⟨p1, ?_⟩, p3, by omega, fun g' o e' => by rw [k0] at e'; injection e' with e'; injection e' with e' _; omega⟩
    rcases p2 with p2 | ⟨g', c', cur', e', r1, r2, r3⟩
    · exact Or.inl p2
    · injection e' with e1' e2' e3'
      rw [k0] at e1'; injection e1' with e1'; injection e1' with e1' _
      subst e1'
      exact Or.inr ⟨q, c', cur', by rw [k0, e3'], Nat.le_refl _, r2, r3⟩
/-- Elements of the call's own stay when bytes apart from theirs change. -/
theorem oe_apart {a b : Nat} {F : Option Addr} {l r m c : Nat} {zs : List Int} (h : Oe S w lo hi A n cap es) (hf : Ow 5 .u8 w l r F m c zs) (ht : Tch a b w w') (hq : ∀ q, a ≤ q → q < b → ∃ ad, F = some ad ∧ ad.block = q) (hd : ∀ e ∈ es, ∀ x y, F = some x → e.A = some y → x.block ≠ y.block) : Oe S w' lo hi A n cap es := by
  refine ⟨⟨h.row.1, ?_⟩, fun e he => ow_apart (h.body e he) ht hq (hd e he), h.ds, by have := h.hi_; have := ht.size; omega, h.lt⟩
  rcases h.row.2 with h2 | ⟨g, c', cur, e, g1, g2, g3⟩
  · exact Or.inl h2
  · refine Or.inr ⟨g, c', cur, e, g1, ?_, g3⟩
    rw [ht.block g (lt_of_block g2) ?_]
    · exact g2
    · rcases Nat.lt_or_ge g a with h1 | h1
      · exact Or.inl h1
      · rcases Nat.lt_or_ge g b with h2 | h2
        · exfalso
          obtain ⟨ad, h3, h4⟩ := hq g h1 h2
          rcases hf.form with ⟨k0, _⟩ | ⟨g', cur', k0, _, _, k3, _⟩
          · rw [k0] at h3; cases h3
          · rw [k0] at h3
            obtain rfl := Option.some.inj h3
            have h4 : g' = g := h4
            subst h4
            rw [g2] at k3
            simp only [Option.some.injEq, Obj.cells.injEq] at k3
            exact S.ne k3.2.1
        · exact Or.inr h2
end
end Go.Proofs.Ytjmenbpalihnnaa.mrw
