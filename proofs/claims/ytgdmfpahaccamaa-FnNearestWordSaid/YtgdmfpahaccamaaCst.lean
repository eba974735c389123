/- The specification's table of costs: a slice of rows of four. Condition: at most 100000 rows. -/
import Derived.Test.YtgdmfpahaccamaaVit6
namespace Go.Proofs.Ytgdmfpahaccamaa.vts
open Go.RowKit sl harn bm rng cvm cvs vit

abbrev rowV (b : Nat) : Value := .slice (some ⟨b, 0, none⟩) 4 4
/-- The costs of the steps 0 to k. -/
def Cst (zs : List Int) (n lo hi : Nat) (w : World) (v : Value) (k : Nat) : Prop :=
  ∃ (g cap : Nat) (bs : List Nat), v = .slice (some ⟨g, 0, none⟩) (k + 1) cap ∧ w.ownsRow lo 24 1 v (k + 1) (bs.map rowV) ∧ g < hi ∧ hi ≤ w.heap.size ∧ ∀ i, i ≤ k → bs.getD i 0 < hi ∧ Row4 w (bs.getD i 0) (scost zs n i)
section
variable {zs : List Int} {n lo hi k : Nat} {w w' : World} {v : Value}
theorem Cst.same (h : Cst zs n lo hi w v k) (hs : w.heap.size ≤ w'.heap.size) (hb : ∀ q, q < hi → w'.heap[q]? = w.heap[q]?) : Cst zs n lo hi w' v k := by
  obtain ⟨g, cap, bs, rfl, h1, h2, h3, h4⟩ := h
  refine ⟨g, cap, bs, rfl, ⟨h1.1, ?_⟩, h2, by omega, fun i hi' => ⟨(h4 i hi').1, (h4 i hi').2.same (hb _ (h4 i hi').1)⟩⟩
  rcases h1.2 with ⟨e, _⟩ | ⟨g', c, cur, e, g1, g2, g3⟩
  · cases e
  · injection e with e1 e2 e3
    injection e1 with e1; injection e1 with e1 _
    subst e1 e3
    exact Or.inr ⟨g, cap, cur, rfl, g1, by rw [hb g h2]; exact g2, g3⟩
theorem Cst.below (h : Cst zs n lo hi w v k) {B : Nat} (hb : Below B w w') (hB : hi ≤ B) : Cst zs n lo hi w' v k := h.same hb.size fun q hq => hb.block q (by omega)
theorem Cst.wide (h : Cst zs n lo hi w v k) : Cst zs n lo w.heap.size w v k := by
  obtain ⟨g, cap, bs, rfl, h1, h2, h3, h4⟩ := h
  exact ⟨g, cap, bs, rfl, h1, by omega, Nat.le_refl _, fun i hi' => ⟨by have := (h4 i hi').1; omega, (h4 i hi').2⟩⟩
theorem Cst.form (h : Cst zs n lo hi w v k) : ∃ g cap, v = .slice (some ⟨g, 0, none⟩) (k + 1) cap := by
  obtain ⟨g, cap, bs, rfl, _⟩ := h
  exact ⟨g, cap, rfl⟩
theorem Cst.at_ {g m cap : Nat} (h : Cst zs n lo hi w (.slice (some ⟨g, 0, none⟩) m cap) k) {i : Nat} (hi' : i ≤ k) : ∃ b, w.cell? ⟨g, i, none⟩ = some (.slice (some ⟨b, 0, none⟩) 4 4) ∧ Row4 w b (scost zs n i) ∧ b < hi := by
  obtain ⟨g', cap', bs, e, h1, h2, h3, h4⟩ := h
  injection e with e1 e2 e3
  injection e1 with e1; injection e1 with e1 _
  subst e1 e2 e3
  have hl : bs.length = k + 1 := by have := h1.1; simpa using this
  refine ⟨bs.getD i 0, ?_, (h4 i hi').2, (h4 i hi').1⟩
  rw [h1.cellAt i (by omega), List.getElem?_map, List.getD_eq_getElem?_getD, List.getElem?_eq_getElem (show i < bs.length by omega)]
  rfl
theorem Cst.start (zs : List Int) (n : Nat) (w : World) : Cst zs n w.heap.size (w.heap.size + 2) ((w.alloc (.cells #[.int .i64 0, .int .i64 (-1), .int .i64 (-1), .int .i64 (-1)] 3)).alloc (.cells #[rowV w.heap.size] 24)) (.slice (some ⟨w.heap.size + 1, 0, none⟩) 1 1) 0 := by
  have hr : Row4 (w.alloc (.cells #[.int .i64 0, .int .i64 (-1), .int .i64 (-1), .int .i64 (-1)] 3)) w.heap.size (scost zs n 0) := (Row4.made w 0 (-1) (-1) (-1)).congr fun t ht => by
    show _ = if t = 0 then 0 else -1
    split
    · rfl
    · split
      · rfl
      · split <;> rfl
  refine ⟨w.heap.size + 1, 1, [w.heap.size], rfl, ?_, by omega, by simp, fun i hi => ?_⟩
  · have := World.ownsRow_lit (e := 24) (size := 1) (base := w.heap.size) (w.alloc (.cells #[.int .i64 0, .int .i64 (-1), .int .i64 (-1), .int .i64 (-1)] 3)) #[rowV w.heap.size] 1 (by simp) (by unfold maxLen; omega) rfl
    simpa using this
  · obtain rfl : i = 0 := by omega
    exact ⟨by simp, hr.same (Below.heap_alloc _ _ _ (by simp))⟩
theorem rowInfo : (Try.prog.info? 24).map (fun i => (i.zero, i.size, i.bytes)) = some (some (.slice none 0 0), 1, 24) := by kernel_rfl
theorem int_ne_row : (3 : TypeId) ≠ 24 := by decide
theorem Cst.push (h : Cst zs n lo hi w v k) (hk : k ≤ 100000) {q nb : Nat} (hq : w.cell? ⟨q, 0, none⟩ = some (rowV nb)) (hr : Row4 w nb (scost zs n (k + 1))) (hlo : lo ≤ w.heap.size) (ty : TypeId) :
    ∃ v' w', (Builtin.append_ #[58, 58] ty #[v, .slice (some ⟨q, 0, none⟩) 1 1]).run Try.prog w = .ok v' w' ∧ Cst zs n lo w'.heap.size w' v' (k + 1) ∧ Below lo w w' := by
  obtain ⟨i0, hi0, hz0, hz1, hz2⟩ := info_parts rowInfo
  have hlohi := h
  obtain ⟨g, cap, bs, rfl, h1, h2, h3, h4⟩ := h
  have hl : bs.length = k + 1 := by have := h1.1; simpa using this
  obtain ⟨v', w', hrun, g1, g2, _, g3⟩ := run_append_own_at (P := Try.prog) w lo 58 ty 24 i0 (.slice none 0 0) 1 24 Try.underlying58 hi0 hz0 hz1 hz2 rfl (by omega) _ (k + 1) _ h1 ⟨q, 0, none⟩ 1 1 [rowV nb] rfl
    (fun j u hu => by
      have hj : j = 0 := by
        have := (List.getElem?_eq_some_iff.1 hu).1
        simpa using this
      subst hj
      have : rowV nb = u := by simpa using hu
      rw [← this]
      have e2 : (⟨q, 0, none⟩ : Addr).add 0 = ⟨q, 0, none⟩ := by simp [Addr.add]
      rw [e2]; exact hq)
    (fun u hu => by
      have : u = rowV nb := by simpa using hu
      rw [this]; rfl) (by unfold maxLen; omega) (by omega) hlo
  have hgb : ∃ cur, w.heap[g]? = some (.cells cur 24 (0, 0)) ∧ lo ≤ g := by
    rcases h1.2 with ⟨e, _⟩ | ⟨g', c, cur, e, k1, k2, k3⟩
    · cases e
    · injection e with e1 e2 e3
      injection e1 with e1; injection e1 with e1 _
      subst e1
      exact ⟨cur, k2, k1⟩
  obtain ⟨cur, hcur, hlog⟩ := hgb
  have hne : ∀ b f, Row4 w b f → b ≠ g := by
    intro b f hb e
    subst e
    unfold Row4 at hb
    rw [hb] at hcur
    simp only [Option.some.injEq, Obj.cells.injEq] at hcur
    exact int_ne_row hcur.2.1
  have hkeep : ∀ b f, Row4 w b f → Row4 w' b f := fun b f hb => hb.same (g2.block b hb.lt (by
    intro e
    have e' : some b = some g := e
    injection e' with e'
    exact hne b f hb e'))
  have hpos := g1.form (by omega)
  have hB : Below lo w w' := (Below.refl lo w).grown g2 hlo fun q hq => by
    have : some g = some q := hq
    injection this with this
    omega
  rcases g1.2 with ⟨_, e⟩ | ⟨g', c', cur', rfl, k1, k2, k3⟩
  · omega
  refine ⟨_, w', hrun, ⟨g', c', bs ++ [nb], rfl, by simpa using g1, lt_of_block k2, Nat.le_refl _, fun i hi' => ?_⟩, hB⟩
  rcases Nat.lt_or_ge i (k + 1) with hlt | hge
  · have e : (bs ++ [nb]).getD i 0 = bs.getD i 0 := by rw [List.getD_eq_getElem?_getD, List.getElem?_append_left (by omega), List.getD_eq_getElem?_getD]
    rw [e]
    have := hkeep _ _ (h4 i (by omega)).2
    exact ⟨this.lt, this⟩
  · obtain rfl : i = k + 1 := by omega
    have e : (bs ++ [nb]).getD (k + 1) 0 = nb := by rw [List.getD_eq_getElem?_getD, List.getElem?_append_right (by omega), hl, Nat.sub_self]; rfl
    rw [e]
    have := hkeep _ _ hr
    exact ⟨this.lt, this⟩
end
theorem cell_new (w : World) (v : Value) (E : TypeId) : (w.alloc (.cells #[v] E)).cell? ⟨w.heap.size, 0, none⟩ = some v := by simp
theorem wpList_push (w : World) {ops : Array Oper} {rest : List Oper} {o : Oper} {a : Act} {Q : Exit → Act → World → Prop} (hg : o.guard = none) (s x : Operand)
    (hop : o.op = .call { callee := .builtin .append, args := #[s, x], argTypes := #[58, 58] })
    {zs : List Int} {n lo hi k q nb : Nat} {v : Value} (hs : a.eval s = v) (hx : a.eval x = .slice (some ⟨q, 0, none⟩) 1 1) (h : Cst zs n lo hi w v k) (hk : k ≤ 100000) (hq : w.cell? ⟨q, 0, none⟩ = some (rowV nb)) (hr : Row4 w nb (scost zs n (k + 1))) (hlo : lo ≤ w.heap.size)
    (hK : ∀ v' w', Cst zs n lo w'.heap.size w' v' (k + 1) → Below lo w w' → wpList Try.prog ops Q rest (a.put o.dst v') w') : wpList Try.prog ops Q (o :: rest) a w := by
  refine wpList_plain hg fun K hK' => ?_
  obtain ⟨v', w', hrun, g1, g2⟩ := h.push hk hq hr hlo o.type
  unfold Oper.wp execOp
  simp only [hop, resolve, invoke, builtin, Sem.run_bind, Sem.run_pure, Result.andThen_ok, List.map_toArray, List.map_cons, List.map_nil, hs, hx, hrun]
  exact hK' _ _ (hK v' w' g1 g2)
end Go.Proofs.Ytgdmfpahaccamaa.vts
