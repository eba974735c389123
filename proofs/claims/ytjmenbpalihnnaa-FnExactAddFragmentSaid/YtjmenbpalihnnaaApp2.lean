/- An append onto a slice of numbers of the call's own that spares the blocks c1 to below c2, in which the slice does not lie. Condition: together at most 2^30 elements of at most 8 bytes. -/
import Derived.Test.YtjmenbpalihnnaaApp
namespace Go.Proofs.Ytjmenbpalihnnaa.sl
open Go.RowKit

/-- A slice that lies outside the blocks c1 to below c2. -/
def Out (c1 c2 : Nat) (A : Option Addr) : Prop := ∀ g o, A = some ⟨g, o, none⟩ → g < c1 ∨ c2 ≤ g
/-- Those blocks are as before. -/
def Spares (c1 c2 : Nat) (w w' : World) : Prop := w.heap.size ≤ w'.heap.size ∧ ∀ q, c1 ≤ q → q < c2 → w'.heap[q]? = w.heap[q]?
theorem Spares.refl (c1 c2 : Nat) (w : World) : Spares c1 c2 w w := ⟨Nat.le_refl _, fun _ _ _ => rfl⟩
theorem Spares.trans {c1 c2 : Nat} {w w' w'' : World} (h : Spares c1 c2 w w') (g : Spares c1 c2 w' w'') : Spares c1 c2 w w'' := ⟨Nat.le_trans h.1 g.1, fun q h1 h2 => (g.2 q h1 h2).trans (h.2 q h1 h2)⟩
theorem Spares.below {c1 c2 B : Nat} {w w' : World} (h : Below B w w') (hc : c2 ≤ B) : Spares c1 c2 w w' := ⟨h.size, fun q _ h2 => h.block q (by omega)⟩
theorem Spares.alloc {c1 c2 : Nat} {w w' : World} (h : Spares c1 c2 w w') (hc : c2 ≤ w'.heap.size) (o : Obj) : Spares c1 c2 w (w'.alloc o) := h.trans (Spares.below ((Below.refl w'.heap.size w').alloc (Nat.le_refl _) o) hc)
theorem Rd.spared {k : IntKind} {w w' : World} {lo hi n cap : Nat} {A : Option Addr} {zs : List Int} (h : Rd k w lo hi A n cap zs) {c1 c2 : Nat} (hs : Spares c1 c2 w w') (h1 : c1 ≤ lo) (h2 : hi ≤ c2) : Rd k w' lo hi A n cap zs :=
  h.same hs.1 fun b g1 g2 => hs.2 b (by omega) (by omega)
theorem app_out {P : Program} (t ty E : TypeId) (i : TypeInfo) (z : Value) (k : IntKind) (h1 : P.underlying t = some (.slice E)) (h2 : P.info? E = some i) (h3 : i.zero = some z) (h4 : i.size = 1) (h5 : i.bytes ≤ 8) (h6 : z.cells.size = 1)
    {w : World} {lo hi lo2 hi2 n cap m c : Nat} {A : Option Addr} {ad : Addr} {zs ys : List Int} (ho : Ow E k w lo hi A n cap zs) (hr : Rd k w lo2 hi2 (some ad) m c ys) (hn : n + m ≤ 1073741824) (hlo : lo ≤ w.heap.size)
    {c1 c2 : Nat} (hA : Out c1 c2 A) (hc : c2 ≤ w.heap.size) :
    ∃ A' cap' w', (Builtin.append_ #[t, t] ty #[.slice A n cap, .slice (some ad) m c]).run P w = .ok (.slice A' (n + m) cap') w' ∧ Ow E k w' lo w'.heap.size A' (n + m) cap' (zs ++ ys) ∧ Below lo w w' ∧ Out c1 c2 A' ∧ Spares c1 c2 w w' := by
  have hwf : Wf k (zs ++ ys) := ho.wf.append hr.wf
  have hcells : ∀ j u, (ys.map (Value.int k))[j]? = some u → w.cell? (ad.add j) = some u := by
    intro j u hu
    have hj : j < ys.length := by
      have := (List.getElem?_eq_some_iff.1 hu).1
      simpa using this
    have hl := hr.len
    obtain ⟨b, off, e, _, _, hc⟩ := hr.at_ (i := j) (by omega)
    injection e with e
    subst e
    have e2 : (⟨b, off, none⟩ : Addr).add j = ⟨b, off + j, none⟩ := by unfold Addr.add; split <;> simp_all
    rw [e2, hc]
    rw [List.getElem?_map, List.getElem?_eq_getElem hj] at hu
    rw [List.getD_eq_getElem?_getD, List.getElem?_eq_getElem hj]
    simpa using hu
  have hb8 : (n + m) * i.bytes ≤ 140737488355328 := by
    have := Nat.mul_le_mul hn h5
    omega
  obtain ⟨v', w', hrun, g1, g2, _, g3⟩ := run_append_own_at (P := P) w lo t ty E i z 1 i.bytes h1 h2 h3 h4 rfl h6 (by omega) _ n _ ho.1 ad m c (ys.map (Value.int k)) (by simpa using hr.len) hcells (one_cells k ys) (by unfold maxLen; omega) hb8 hlo
  rw [← List.map_append] at g1
  obtain ⟨A', cap', rfl, hO⟩ := Ow.of_own g1 hwf
  have hg := (Below.refl lo w).grown g2 hlo fun q hq => by
    rcases ho.form with ⟨rfl, _⟩ | ⟨g, cur, rfl, hg, _⟩
    · simp [Value.ownBlock] at hq
    · simp [Value.ownBlock] at hq; omega
  refine ⟨A', cap', w', hrun, hO, hg, fun g o e => ?_, hg.size, fun q q1 q2 => g2.block q (by omega) ?_⟩
  · subst e
    rcases g3 with g3 | g3
    · cases A with
      | none => simp [Value.ownBlock] at g3
      | some a =>
        simp only [Value.ownBlock, Option.some.injEq] at g3
        rcases ho.form with ⟨h, _⟩ | ⟨b, cur, h, _⟩
        · cases h
        · injection h with h; subst h
          simp only at g3
          subst g3
          exact hA _ _ rfl
    · simp only [Value.ownBlock, Option.some.injEq] at g3
      right; omega
  · intro e
    cases A with
    | none => simp [Value.ownBlock] at e
    | some a =>
      simp only [Value.ownBlock, Option.some.injEq] at e
      rcases ho.form with ⟨h, _⟩ | ⟨b, cur, h, _⟩
      · cases h
      · injection h with h; subst h
        simp only at e
        subst e
        have := hA _ _ rfl
        omega
theorem wpList_app_out {P : Program} (w : World) {ops : Array Oper} {rest : List Oper} {o : Oper} {a : Act} {Q : Exit → Act → World → Prop} (hg : o.guard = none) (s x : Operand) (t : TypeId)
    (hop : o.op = .call { callee := .builtin .append, args := #[s, x], argTypes := #[t, t] })
    (E : TypeId) (i : TypeInfo) (z : Value) (k : IntKind) (h1 : P.underlying t = some (.slice E)) (h2 : P.info? E = some i) (h3 : i.zero = some z) (h4 : i.size = 1) (h5 : i.bytes ≤ 8) (h6 : z.cells.size = 1)
    {lo hi lo2 hi2 n cap m c : Nat} {A : Option Addr} {ad : Addr} {zs ys : List Int} (hs : a.eval s = .slice A n cap) (hx : a.eval x = .slice (some ad) m c) (ho : Ow E k w lo hi A n cap zs) (hr : Rd k w lo2 hi2 (some ad) m c ys) (hn : n + m ≤ 1073741824) (hlo : lo ≤ w.heap.size)
    (c1 c2 : Nat) (hA : Out c1 c2 A) (hc : c2 ≤ w.heap.size)
    (hK : ∀ A' cap' w', Ow E k w' lo w'.heap.size A' (n + m) cap' (zs ++ ys) → Below lo w w' → Out c1 c2 A' → Spares c1 c2 w w' → wpList P ops Q rest (a.put o.dst (.slice A' (n + m) cap')) w') : wpList P ops Q (o :: rest) a w := by
  refine wpList_plain hg fun K hK' => ?_
  obtain ⟨A', cap', w', hrun, g1, g2, g3, g4⟩ := app_out (P := P) t o.type E i z k h1 h2 h3 h4 h5 h6 ho hr hn hlo hA hc
  unfold Oper.wp execOp
  simp only [hop, resolve, invoke, builtin, Sem.run_bind, Sem.run_pure, Result.andThen_ok, List.map_toArray, List.map_cons, List.map_nil, hs, hx, hrun]
  exact hK' _ _ (hK A' cap' w' g1 g2 g3 g4)
end Go.Proofs.Ytjmenbpalihnnaa.sl
