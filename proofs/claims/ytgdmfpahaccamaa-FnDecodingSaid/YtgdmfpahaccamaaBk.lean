/- A row that is filled from its end. Condition: none. -/
import Derived.Test.YtgdmfpahaccamaaHarn
namespace Go.Proofs.Ytgdmfpahaccamaa.harn
open Go.RowKit sl

/-- Block bo is a row of n numbers; from j on they are those of L. -/
def Bk (E : TypeId) (kd : IntKind) (bo : Nat) (w : World) (n j : Nat) (L : List Int) : Prop :=
  ∃ cs, w.heap[bo]? = some (.cells cs E (0, 0)) ∧ cs.size = n ∧ ∀ i, j ≤ i → i < n → cs[i]? = some (.int kd (L.getD i 0))
section
variable {E : TypeId} {kd : IntKind} {bo : Nat} {w w' : World} {n j : Nat} {L : List Int}
theorem Bk.start (E : TypeId) (kd : IntKind) (w : World) (n : Nat) {j : Nat} (hj : n ≤ j) (L : List Int) (z : Array Value) : Bk E kd w.heap.size (w.alloc (.cells (madeCells z n) E)) n j L :=
  ⟨_, heap_alloc_new w _, size_madeCells z n, fun i h1 h2 => absurd h1 (by omega)⟩
theorem Bk.same (h : Bk E kd bo w n j L) (hb : w'.heap[bo]? = w.heap[bo]?) : Bk E kd bo w' n j L := by
  obtain ⟨cs, h1, h2⟩ := h
  exact ⟨cs, by rw [hb]; exact h1, h2⟩
theorem Bk.lt (h : Bk E kd bo w n j L) : bo < w.heap.size := by
  obtain ⟨cs, h1, h2⟩ := h
  exact lt_of_block h1
theorem Bk.alloc (h : Bk E kd bo w n j L) (o : Obj) : Bk E kd bo (w.alloc o) n j L := h.same (Below.heap_alloc _ _ _ h.lt)
theorem Bk.cell (h : Bk E kd bo w n j L) {i : Nat} (hi : i < n) : ∃ v, w.cell? ⟨bo, i, none⟩ = some v := by
  obtain ⟨cs, h1, h2, _⟩ := h
  exact ⟨cs[i]'(by omega), by simp [World.cell?, h1]⟩
theorem Bk.free (h : Bk E kd bo w n j L) (i : Nat) : w.frozen? ⟨bo, i, none⟩ = false := by
  obtain ⟨cs, h1, _⟩ := h
  simp [World.frozen?, h1]
theorem Bk.step (h : Bk E kd bo w n (j + 1) L) (hj : j < n) {v : Int} (hv : L.getD j 0 = v) : Bk E kd bo (w.setCell ⟨bo, j, none⟩ (.int kd v)) n j L := by
  obtain ⟨cs, h1, h2, h3⟩ := h
  refine ⟨cs.setIfInBounds j (.int kd v), heap_setCell_same w bo j cs E _ h1, by simpa using h2, fun i g1 g2 => ?_⟩
  by_cases hij : i = j
  · subst hij
    rw [Array.getElem?_setIfInBounds_self_of_lt (by omega), hv]
  · rw [Array.getElem?_setIfInBounds_ne (by omega)]; exact h3 i (by omega) g2
theorem Bk.skip (h : Bk E kd bo w n (j + 1) L) (hj : n ≤ j) : Bk E kd bo w n j L := by
  obtain ⟨cs, h1, h2, h3⟩ := h
  exact ⟨cs, h1, h2, fun i g1 g2 => absurd g1 (by omega)⟩
theorem Bk.other (h : Bk E kd bo w n j L) {p : Addr} (hp : bo ≠ p.block) (u : Value) : Bk E kd bo (w.setCell p u) n j L := h.same (Below.heap_setCell _ _ _ _ hp)
theorem Bk.done (h : Bk E kd bo w n 0 L) {zs : List Int} (hz : zs.length = n) (he : ∀ i, i < n → zs.getD i 0 = L.getD i 0) (hw : Wf kd zs) (hm : n ≤ maxLen) {lo : Nat} (hl : lo ≤ bo) : Ow E kd w lo w.heap.size (some ⟨bo, 0, none⟩) n n zs := by
  obtain ⟨cs, h1, h2, h3⟩ := h
  have e : cs.toList = zs.map (Value.int kd) := by
    apply List.ext_getElem?
    intro i
    rw [Array.getElem?_toList, List.getElem?_map]
    rcases Nat.lt_or_ge i n with hi | hi
    · rw [h3 i (Nat.zero_le _) hi, ← he i hi, List.getElem?_eq_getElem (show i < zs.length by omega), List.getD_eq_getElem?_getD, List.getElem?_eq_getElem (show i < zs.length by omega)]
      rfl
    · rw [Array.getElem?_eq_none (by omega), List.getElem?_eq_none (by omega)]; rfl
  refine ⟨⟨by simpa using hz, Or.inr ⟨_, n, cs, rfl, hl, h1, Nat.le_refl _, hm, by simpa using h2, ?_⟩⟩, hw, Nat.le_refl _, ?_⟩
  · rw [Nat.mul_one, ← e, List.take_of_length_le (by simp; omega)]
  · intro g o e; injection e with e; injection e with e _; subst e; exact lt_of_block h1
end
end Go.Proofs.Ytgdmfpahaccamaa.harn
