/- An append onto a slice of numbers of the call's own, whatever slice of numbers is appended (nil and empty ones too). Condition: together at most 2^30 elements of at most 8 bytes. -/
import Derived.Test.YtalfihfielgmpaaHarn
import Derived.BigFrame
namespace Go.Proofs.Ytalfihfielgmpaa.sl
open Go.RowKit

section
variable {k : IntKind} {w w' : World} {lo hi n cap : Nat} {A : Option Addr} {zs : List Int} {E : TypeId}
theorem Rd.one (k : IntKind) (E : TypeId) (w : World) (x : Int) (hx : (Lit.int k x).wf = true) : Rd k (w.alloc (.cells #[.int k x] E)) w.heap.size (w.heap.size + 1) (some ⟨w.heap.size, 0, none⟩) 1 1 [x] :=
  ⟨rfl, by omega, by unfold maxLen; omega, by simp, Wf.one hx, fun _ => ⟨_, 0, rfl, Nat.le_refl _, by omega, fun i hi => by
    obtain rfl : i = 0 := by omega
    simp⟩⟩
theorem Ow.alloc (h : Ow E k w lo hi A n cap zs) (o : Obj) : Ow E k (w.alloc o) lo hi A n cap zs := h.below ((Below.refl _ _).alloc (Nat.le_refl _) _)
theorem Rd.alloc (h : Rd k w lo hi A n cap zs) (o : Obj) : Rd k (w.alloc o) lo hi A n cap zs := h.below ((Below.refl _ _).alloc (Nat.le_refl _) _)
theorem Ow.up (h : Ow E k w lo hi A n cap zs) : Ow E k w lo w.heap.size A n cap zs := ⟨h.1, h.2.1, Nat.le_refl _, fun g o e => by have := h.2.2.2 g o e; have := h.hi_; omega⟩
theorem Ow.down {lo2 : Nat} (h : Ow E k w lo hi A n cap zs) (hl : lo2 ≤ lo) : Ow E k w lo2 hi A n cap zs := by
  obtain ⟨⟨h1, h2⟩, h3, h4, h5⟩ := h
  refine ⟨⟨h1, ?_⟩, h3, h4, h5⟩
  rcases h2 with h2 | ⟨g, c, cur, e, g1, g2⟩
  · exact Or.inl h2
  · exact Or.inr ⟨g, c, cur, e, by omega, g2⟩
theorem Ow.nil_ (E : TypeId) (k : IntKind) (w : World) (lo hi : Nat) (hh : hi ≤ w.heap.size) : Ow E k w lo hi none 0 0 [] :=
  ⟨⟨rfl, Or.inl ⟨rfl, rfl⟩⟩, Wf.nil k, hh, fun _ _ e => by cases e⟩
theorem Ow.empty (E : TypeId) (k : IntKind) (w : World) : Ow E k (w.alloc (.cells #[] E)) w.heap.size (w.heap.size + 1) (some ⟨w.heap.size, 0, none⟩) 0 0 [] := by
  have := Ow.lit (E := E) (k := k) (n := 0) w #[] [] rfl (Wf.nil k) (by unfold maxLen; simp) rfl
  simpa using this
end

theorem app {P : Program} (t ty E : TypeId) (i : TypeInfo) (z : Value) (k : IntKind) (h1 : P.underlying t = some (.slice E)) (h2 : P.info? E = some i) (h3 : i.zero = some z) (h4 : i.size = 1) (h5 : i.bytes ≤ 8) (h6 : z.cells.size = 1)
    {w : World} {lo hi lo2 hi2 n cap m c : Nat} {A B : Option Addr} {zs ys : List Int} (ho : Ow E k w lo hi A n cap zs) (hr : Rd k w lo2 hi2 B m c ys) (hn : n + m ≤ 1073741824) (hlo : lo ≤ w.heap.size) :
    ∃ A' cap' w', (Builtin.append_ #[t, t] ty #[.slice A n cap, .slice B m c]).run P w = .ok (.slice A' (n + m) cap') w' ∧ Ow E k w' lo w'.heap.size A' (n + m) cap' (zs ++ ys) ∧ Below lo w w' := by
  have hwf : Wf k (zs ++ ys) := ho.wf.append hr.wf
  cases B with
  | none =>
    have hm : m = 0 := by
      rcases Nat.eq_zero_or_pos m with h | h
      · exact h
      · obtain ⟨b, off, e, _⟩ := hr.at_ h; cases e
    subst hm
    have hy : ys = [] := List.eq_nil_of_length_eq_zero hr.len
    subst hy
    refine ⟨A, cap, w, ?_, by simpa using ho.up, Below.refl _ _⟩
    rcases ho.form with ⟨rfl, rfl, rfl⟩ | ⟨g, cur, rfl, _, _, _, hnc, _⟩
    · simp [Builtin.append_, run_underlying h1, sizeOf, typeInfo, h2, Builtin.lenOf, Builtin.firstCells]
    · simp [Builtin.append_, run_underlying h1, sizeOf, typeInfo, h2, Builtin.lenOf, Builtin.firstCells, hnc, storeCells]
  | some ad =>
    have hcells : ∀ j u, (ys.map (Value.int k))[j]? = some u → w.cell? (ad.add j) = some u := by
      intro j u hu
      have hj : j < ys.length := by
        have := (List.getElem?_eq_some_iff.1 hu).1
        simpa using this
      have hl := hr.len
      obtain ⟨b, off, e, _, _, hc⟩ := hr.at_ (i := j) (by omega)
      injection e with e
      subst e
      have e2 : (⟨b, off, none⟩ : Addr).add j = ⟨b, off + j, none⟩ := by unfold Addr.add; split <;> simp_all
      rw [e2, hc]
      rw [List.getElem?_map, List.getElem?_eq_getElem hj] at hu
      rw [List.getD_eq_getElem?_getD, List.getElem?_eq_getElem hj]
      simpa using hu
    have hb8 : (n + m) * i.bytes ≤ 140737488355328 := by
      have := Nat.mul_le_mul hn h5
      omega
    obtain ⟨v', w', hrun, g1, g2, _, g3⟩ := run_append_own_at (P := P) w lo t ty E i z 1 i.bytes h1 h2 h3 h4 rfl h6 (by omega) _ n _ ho.1 ad m c (ys.map (Value.int k)) (by simpa using hr.len) hcells (one_cells k ys) (by unfold maxLen; omega) hb8 hlo
    rw [← List.map_append] at g1
    obtain ⟨A', cap', rfl, hO⟩ := Ow.of_own g1 hwf
    refine ⟨A', cap', w', hrun, hO, (Below.refl _ _).grown g2 hlo fun q hq => ?_⟩
    rcases ho.form with ⟨rfl, _⟩ | ⟨g, cur, rfl, hg, _⟩
    · simp [Value.ownBlock] at hq
    · simp [Value.ownBlock] at hq; omega

theorem wpList_app {P : Program} (w : World) {ops : Array Oper} {rest : List Oper} {o : Oper} {a : Act} {Q : Exit → Act → World → Prop} (hg : o.guard = none) (s x : Operand) (t : TypeId)
    (hop : o.op = .call { callee := .builtin .append, args := #[s, x], argTypes := #[t, t] })
    (E : TypeId) (i : TypeInfo) (z : Value) (k : IntKind) (h1 : P.underlying t = some (.slice E)) (h2 : P.info? E = some i) (h3 : i.zero = some z) (h4 : i.size = 1) (h5 : i.bytes ≤ 8) (h6 : z.cells.size = 1)
    {lo hi lo2 hi2 n cap m c : Nat} {A B : Option Addr} {zs ys : List Int} (hs : a.eval s = .slice A n cap) (hx : a.eval x = .slice B m c) (ho : Ow E k w lo hi A n cap zs) (hr : Rd k w lo2 hi2 B m c ys) (hn : n + m ≤ 1073741824) (hlo : lo ≤ w.heap.size)
    (hK : ∀ A' cap' w', Ow E k w' lo w'.heap.size A' (n + m) cap' (zs ++ ys) → Below lo w w' → wpList P ops Q rest (a.put o.dst (.slice A' (n + m) cap')) w') : wpList P ops Q (o :: rest) a w := by
  refine wpList_plain hg fun K hK' => ?_
  obtain ⟨A', cap', w', hrun, g1, g2⟩ := app (P := P) t o.type E i z k h1 h2 h3 h4 h5 h6 ho hr hn hlo
  unfold Oper.wp execOp
  simp only [hop, resolve, invoke, builtin, Sem.run_bind, Sem.run_pure, Result.andThen_ok, List.map_toArray, List.map_cons, List.map_nil, hs, hx, hrun]
  exact hK' _ _ (hK A' cap' w' g1 g2)
/-- The same at an operation under a guard that says yes. -/
theorem wpList_app_want {P : Program} (w : World) {ops : Array Oper} {rest : List Oper} {o : Oper} {a : Act} {Q : Exit → Act → World → Prop} (hg : Region.wanted o (yielded ops a.tmps) = true) (s x : Operand) (t : TypeId)
    (hop : o.op = .call { callee := .builtin .append, args := #[s, x], argTypes := #[t, t] })
    (E : TypeId) (i : TypeInfo) (z : Value) (k : IntKind) (h1 : P.underlying t = some (.slice E)) (h2 : P.info? E = some i) (h3 : i.zero = some z) (h4 : i.size = 1) (h5 : i.bytes ≤ 8) (h6 : z.cells.size = 1)
    {lo hi lo2 hi2 n cap m c : Nat} {A B : Option Addr} {zs ys : List Int} (hs : a.eval s = .slice A n cap) (hx : a.eval x = .slice B m c) (ho : Ow E k w lo hi A n cap zs) (hr : Rd k w lo2 hi2 B m c ys) (hn : n + m ≤ 1073741824) (hlo : lo ≤ w.heap.size)
    (hK : ∀ A' cap' w', Ow E k w' lo w'.heap.size A' (n + m) cap' (zs ++ ys) → Below lo w w' → wpList P ops Q rest (a.put o.dst (.slice A' (n + m) cap')) w') : wpList P ops Q (o :: rest) a w := by
  refine Go.BigFrame.wpList_want hg fun K hK' => ?_
  obtain ⟨A', cap', w', hrun, g1, g2⟩ := app (P := P) t o.type E i z k h1 h2 h3 h4 h5 h6 ho hr hn hlo
  unfold Oper.wp execOp
  simp only [hop, resolve, invoke, builtin, Sem.run_bind, Sem.run_pure, Result.andThen_ok, List.map_toArray, List.map_cons, List.map_nil, hs, hx, hrun]
  exact hK' _ _ (hK A' cap' w' g1 g2)
end Go.Proofs.Ytalfihfielgmpaa.sl
