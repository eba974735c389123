/- Two appends behind one another: an empty row gets the first part of a row, then its last part. Condition: together at most 2^30 elements. -/
import Derived.Test.YtbkdbdhbmabgcaaMrd
import Derived.Test.YtbkdbdhbmabgcaaRgu
namespace Go.Proofs.Ytbkdbdhbmabgcaa.mrw
open Go.RowKit sl harn bx
set_option linter.unusedVariables false
set_option linter.unusedSimpArgs false

section
variable {α : Type} {S : Sh α} {w w' : World} {lo hi n cap : Nat} {A : Option Addr} {xs : List α} {es : List (El α)}
theorem Oe.more2 {P : Program} (t ty : TypeId) (i : TypeInfo) (z : Value) (h1 : P.underlying t = some (.slice S.T)) (h2 : P.info? S.T = some i) (h3 : i.zero = some z) (h4 : i.size = S.s) (h5 : i.bytes ≤ 128) (h6 : z.cells.size = S.s)
    (h : Oe S w lo hi A n cap es) (ad : Addr) (m c : Nat) (fs : List (El α)) (hm : fs.length = m) (hsrc : ∀ j u, (flat S fs)[j]? = some u → w.cell? (ad.add j) = some u)
    (hb : ∀ f ∈ fs, ∃ lo2 hi2, lo ≤ lo2 ∧ Ow 5 .u8 w lo2 hi2 f.A f.n f.c (S.B f.x)) (hd : Ds (es ++ fs)) (hn : n + m ≤ 1073741824) (hlo : lo ≤ w.heap.size) :
    ∃ A' cap' w', (Builtin.append_ #[t, t] ty #[.slice A n cap, .slice (some ad) m c]).run P w = .ok (.slice A' (n + m) cap') w' ∧ Oe S w' lo w'.heap.size A' (n + m) cap' (es ++ fs) ∧ w.grownBy w' (blkOf A) ∧ (blkOf A' = blkOf A ∨ ∀ q, blkOf A' = some q → w.heap.size ≤ q) ∧
      (∀ lo' hi' A2 n2 c2 es2, n2 ≤ n → Oe S w lo' hi' A2 n2 c2 es2 → Oe S w' lo' hi' A2 n2 c2 es2) ∧ ((m = 0 ∨ cap < n + m) → Below w.heap.size w w') := by
  have hb8 : (n + m) * i.bytes ≤ 140737488355328 := by
    have := Nat.mul_le_mul hn h5
    omega
  obtain ⟨A', cap', w', hrun, g1, g2, _, g4⟩ := h.more (P := P) t ty i z h1 h2 h3 h4 h5 h6 ad m c fs hm hsrc hb hd hn hlo
  have same : ∀ {v : Value} {u : World}, (Builtin.append_ #[t, t] ty #[.slice A n cap, .slice (some ad) m c]).run P w = .ok v u → w' = u := by
    intro v u hu
    rw [hrun] at hu
    injection hu
  refine ⟨A', cap', w', hrun, g1, g2, g4, ?_⟩
  have fresh : Below w.heap.size w w' → (∀ lo' hi' A2 n2 c2 es2, n2 ≤ n → Oe S w lo' hi' A2 n2 c2 es2 → Oe S w' lo' hi' A2 n2 c2 es2) ∧ ((m = 0 ∨ cap < n + m) → Below w.heap.size w w') := fun hB => ⟨fun _ _ _ _ _ _ _ ho => ho.below hB, fun _ => hB⟩
  by_cases hm0 : m = 0
  · subst hm0
    have hf : fs = [] := List.eq_nil_of_length_eq_zero hm
    subst hf
    refine fresh ?_
    have : (Builtin.append_ #[t, t] ty #[.slice A n cap, .slice (some ad) 0 c]).run P w = .ok (.slice A n cap) w := by
      rcases h.form with ⟨rfl, rfl, rfl⟩ | ⟨g, cur, rfl, _, _, _, hnc, _⟩
      · simp [Builtin.append_, run_underlying h1, sizeOf, typeInfo, h2, Builtin.lenOf, Builtin.firstCells, loadCells, loadCellsFrom]
      · simp [Builtin.append_, run_underlying h1, sizeOf, typeInfo, h2, Builtin.lenOf, Builtin.firstCells, hnc, storeCells, loadCells, loadCellsFrom]
    rw [same this]
    exact Below.refl _ _
  · rcases h.form with ⟨rfl, rfl, rfl⟩ | ⟨g, cur, rfl, hg1, hg2, hcur, hnc, hcm, hcs, htake⟩
    · refine fresh ?_
      have hr := run_append_nil (P := P) w t ty S.T i z h1 h2 h3 ad m c (flat S fs) (by rw [flat_len, hm, h4]) hsrc (by omega) (by omega) (by have hb := hb8; simp only [Nat.zero_add] at hb; omega)
      rw [same hr]
      exact ⟨rfl, rfl, rfl, by simp, fun k hk => heap_alloc_old w.drew _ hk⟩
    · by_cases hroom : n + m ≤ cap
      · obtain ⟨u, hr, k1, k2⟩ := run_append_fits (P := P) w lo t ty S.T i S.s h1 h2 h4 g n cap (flat S es) h.row ad m c (flat S fs) (by rw [flat_len, hm]) hsrc (flat_one S fs) hroom
        obtain rfl := same hr
        obtain ⟨cur', q1, q2, q3, q4, q5, q6⟩ := row_at k1
        refine ⟨fun lo' hi' A2 n2 c2 es2 hn2 ho => ?_, fun hh => by omega⟩
        have hbody : ∀ e ∈ es2, Ow 5 .u8 w' lo' hi' e.A e.n e.c (S.B e.x) := fun e he => ow_grown h g2 (ho.body e he)
        refine ⟨⟨ho.row.1, ?_⟩, hbody, ho.ds, by have := ho.hi_; have := g2.size; omega, ho.lt⟩
        rcases ho.row.2 with r0 | ⟨g', c', cur2, e, r1, r2, r3, r4, r5, r6⟩
        · exact Or.inl r0
        · by_cases hgg : g' = g
          · subst hgg
            rw [hcur] at r2
            simp only [Option.some.injEq, Obj.cells.injEq] at r2
            obtain ⟨rfl, _⟩ := r2
            have ec : c' = cap := Nat.eq_of_mul_eq_mul_right S.pos (by rw [← r5, hcs])
            refine Or.inr ⟨g', c', cur', e, r1, q1, r3, r4, by rw [q5, ec], ?_⟩
            have e1 := congrArg (List.take (n2 * S.s)) q6
            rw [List.take_take, Nat.min_eq_left (Nat.mul_le_mul_right _ (by omega)), List.take_append_of_le_length (by rw [flat_len, h.len]; exact Nat.mul_le_mul_right _ hn2)] at e1
            rw [e1, ← htake, List.take_take, Nat.min_eq_left (Nat.mul_le_mul_right _ hn2)]
            exact r6
          · refine Or.inr ⟨g', c', cur2, e, r1, ?_, r3, r4, r5, r6⟩
            rw [g2.block g' (lt_of_block r2) (by simpa using hgg)]
            exact r2
      · refine fresh ?_
        have holds : ∀ j u, (flat S es)[j]? = some u → w.cell? ((⟨g, 0, none⟩ : Addr).add j) = some u := h.row.cells (g := g) rfl
        have hr := run_append_grow (P := P) w t ty S.T i z h1 h2 h3 ⟨g, 0, none⟩ n cap (flat S es) (by rw [h4]; exact h.row.1) holds ad m c (flat S fs) (by rw [flat_len, hm, h4]) hsrc (by omega) (by omega) (growslice_fits (by omega) hb8)
        rw [same hr]
        exact ⟨rfl, rfl, rfl, by simp, fun k hk => heap_alloc_old w.drew _ hk⟩
end
end Go.Proofs.Ytbkdbdhbmabgcaa.mrw
namespace Go.Proofs.Ytbkdbdhbmabgcaa.rgf
open Go Go.RowKit sl harn bx mrw
set_option linter.unusedVariables false
section
variable {α : Type} {S : Sh α}
/-- The worlds behind B in which short rows stay. -/
def Kp (S : Sh α) (B z : Nat) : Rel := fun ua ub => Below B ua ub ∧ ∀ lo' hi' A' n' c' es', n' ≤ z → Oe S ua lo' hi' A' n' c' es' → Oe S ub lo' hi' A' n' c' es'
/-- A row of the call's own above B. -/
def rowB (S : Sh α) (lo B n : Nat) (es : List (El α)) (v : Value) (w : World) : Prop := ∃ A c hi, v = .slice A n c ∧ Oe S w lo hi A n c es ∧ ∀ q, blkOf A = some q → B ≤ q
/-- The same, without spare cells. -/
def rowE (S : Sh α) (lo B : Nat) (v : Value) (w : World) : Prop := ∃ q hi, v = .slice (some ⟨q, 0, none⟩) 0 0 ∧ Oe S w lo hi (some ⟨q, 0, none⟩) 0 0 [] ∧ B ≤ q
theorem rowB_below {lo B n : Nat} {es : List (El α)} : Sb (rowB S lo B n es) reg.Bel := fun v w w' ⟨A, c, hi, e, ho, hq⟩ hb => ⟨A, c, hi, e, ho.below hb, hq⟩
theorem rowE_below {lo B : Nat} : Sb (rowE S lo B) reg.Bel := fun v w w' ⟨q, hi, e, ho, hq⟩ hb => ⟨q, hi, e, ho.below hb, hq⟩
theorem rowB_kp {lo B n z : Nat} {es : List (El α)} (hn : n ≤ z) : Sb (rowB S lo B n es) (Kp S B z) := fun v w w' ⟨A, c, hi, e, ho, hq⟩ hb => ⟨A, c, hi, e, hb.2 _ _ _ _ _ _ hn ho, hq⟩
theorem rowE_kp {lo B z : Nat} : Sb (rowE S lo B) (Kp S B z) := fun v w w' ⟨q, hi, e, ho, hq⟩ hb => ⟨q, hi, e, hb.2 _ _ _ _ _ _ (Nat.zero_le _) ho, hq⟩
/-- The first append: onto the empty row. -/
theorem wp_first {P : Program} {o : Oper} {a : Act} {w : World} {K : Act → World → Prop} {Q : Exit → Act → World → Prop} (s x : Operand) (t : TypeId)
    (hop : o.op = .call { callee := .builtin .append, args := #[s, x], argTypes := #[t, t] })
    {i : TypeInfo} {z : Value} (h1 : P.underlying t = some (.slice S.T)) (h2 : P.info? S.T = some i) (h3 : i.zero = some z) (h4 : i.size = S.s) (h5 : i.bytes ≤ 128) (h6 : z.cells.size = S.s)
    {lo hi0 hi n q B : Nat} {es : List (El α)} {g cp k : Nat} (hs : a.eval s = .slice (some ⟨q, 0, none⟩) 0 0) (hx : a.eval x = .slice (some ⟨g, 0, none⟩) k cp) (h0 : Oe S w lo hi0 (some ⟨q, 0, none⟩) 0 0 []) (hB : B ≤ q) (hBw : B ≤ w.heap.size) (ho : Oe S w lo hi (some ⟨g, 0, none⟩) n cp es) (hk : k ≤ n) (hn : n ≤ 1073741824) (hlo : lo ≤ w.heap.size)
    (hK : ∀ v w', rowB S lo B k (es.take k) v w' → Below w.heap.size w w' → K (a.put o.dst v) w') : Oper.wp P o a w K Q := by
  have hl := ho.len
  obtain ⟨A', cap', w', hrun, g1, g2, g4, _, g6⟩ := h0.more2 (P := P) t o.type i z h1 h2 h3 h4 h5 h6 ⟨g, 0, none⟩ k cp (es.take k) (by rw [List.length_take]; omega) (fun j u hu => by
    rw [← flat_take, List.getElem?_take] at hu
    split at hu
    · exact ho.row.cells (g := g) rfl j u hu
    · cases hu) (fun f hf => ⟨lo, hi, Nat.le_refl _, ho.body f (List.mem_of_mem_take hf)⟩) (by rw [List.nil_append]; exact List.Pairwise.sublist (List.take_sublist _ _) ho.ds) (by omega) hlo
  rw [Nat.zero_add, List.nil_append] at g1
  unfold Oper.wp execOp
  simp only [hop, resolve, invoke, builtin, Sem.run_bind, Sem.run_pure, Result.andThen_ok, List.map_toArray, List.map_cons, List.map_nil, hs, hx, hrun]
  rw [Nat.zero_add]
  refine hK _ w' ⟨A', cap', _, rfl, g1, fun q' hq' => ?_⟩ (g6 (by omega))
  rcases g4 with g4 | g4
  · rw [g4] at hq'
    have : q = q' := by simpa using hq'
    omega
  · have := g4 q' hq'; omega
/-- The second append: the last part. -/
theorem wp_second {P : Program} {o : Oper} {a : Act} {w : World} {K : Act → World → Prop} {Q : Exit → Act → World → Prop} (s x : Operand) (t : TypeId)
    (hop : o.op = .call { callee := .builtin .append, args := #[s, x], argTypes := #[t, t] })
    {i : TypeInfo} {z : Value} (h1 : P.underlying t = some (.slice S.T)) (h2 : P.info? S.T = some i) (h3 : i.zero = some z) (h4 : i.size = S.s) (h5 : i.bytes ≤ 128) (h6 : z.cells.size = S.s)
    {lo hi0 hi n c B : Nat} {A : Option Addr} {es : List (El α)} {g cp k m c2 : Nat} {ad : Addr} (hs : a.eval s = .slice A k c) (hx : a.eval x = .slice (some ad) m c2) (h0 : Oe S w lo hi0 A k c (es.take k)) (hB : ∀ q, blkOf A = some q → B ≤ q) (hBw : B ≤ w.heap.size) (ho : Oe S w lo hi (some ⟨g, 0, none⟩) n cp es) (hk : k < n) (hm : m = n - (k + 1)) (had : k + 1 < n → ad = ⟨g, (k + 1) * S.s, none⟩) (hn : n ≤ 1073741824) (hlo : lo ≤ w.heap.size)
    (hK : ∀ v w', rowB S lo B (n - 1) (es.eraseIdx k) v w' → Kp S B k w w' → K (a.put o.dst v) w') : Oper.wp P o a w K Q := by
  subst hm
  have hl := ho.len
  have hfl : (es.drop (k + 1)).length = n - (k + 1) := by rw [List.length_drop, hl]
  have e : k + (n - (k + 1)) = n - 1 := by omega
  obtain ⟨A', cap', w', hrun, g1, g2, g4, g5, _⟩ := h0.more2 (P := P) t o.type i z h1 h2 h3 h4 h5 h6 ad (n - (k + 1)) c2 (es.drop (k + 1)) hfl (fun q u hu => by
    have hq := (List.getElem?_eq_some_iff.1 hu).1
    rw [flat_len, hfl] at hq
    have hlt : k + 1 < n := by
      rcases Nat.lt_or_ge (k + 1) n with h | h
      · exact h
      · rw [show n - (k + 1) = 0 by omega] at hq; omega
    rw [had hlt, Addr.add_mid]
    rw [← flat_drop, List.getElem?_drop] at hu
    rw [ho.row.cellAt _ (by
      have : (n - (k + 1)) * S.s + (k + 1) * S.s = n * S.s := by rw [← Nat.add_mul]; congr 1; omega
      omega)]
    exact hu) (fun f hf => ⟨lo, hi, Nat.le_refl _, ho.body f (List.mem_of_mem_drop hf)⟩) (by rw [← List.eraseIdx_eq_take_drop_succ]; exact List.Pairwise.sublist (List.eraseIdx_sublist _ _) ho.ds) (by omega) hlo
  rw [← List.eraseIdx_eq_take_drop_succ] at g1
  rw [e] at hrun g1
  unfold Oper.wp execOp
  simp only [hop, resolve, invoke, builtin, Sem.run_bind, Sem.run_pure, Result.andThen_ok, List.map_toArray, List.map_cons, List.map_nil, hs, hx, hrun]
  refine hK _ w' ⟨A', cap', _, rfl, g1, fun q' hq' => ?_⟩ ⟨(Below.refl B w).grown g2 hBw hB, g5⟩
  rcases g4 with g4 | g4
  · rw [g4] at hq'; exact hB q' hq'
  · have := g4 q' hq'; omega
end
end Go.Proofs.Ytbkdbdhbmabgcaa.rgf
