/- A whole variable of many cells stored and handed back in one step, in regions that draw their order and in others; 'clear' of one element of many cells. Condition: none. -/
import Derived.Test.YtalfihfielgmpaaBox
import Derived.Test.YtalfihfielgmpaaReg
import Derived.Laws.CopyRow
import Derived.Deep.RegionLaw
import Derived.Deep.MidRow
import Derived.Lib.SliceRun
namespace Go.Proofs.Ytalfihfielgmpaa.stw
open Go.RowKit sl harn bx
set_option linter.unusedVariables false

theorem cells_row {P : Program} {w : World} {b : Nat} {T : TypeId} {cur cells : Array Value} (hX : Bx T w b cur) (hs : cur.size = cells.size) (h1 : cells.all (·.oneCell') = true) : w.setCells b 0 cells.toList = w.setRow b cells := by
  have h2 := run_storeCells_cells (P := P) b 0 cells.toList 0 w (fun j hj => by rw [show 0 + 0 + j = j by omega, hX.cell j]; simp at hj; simp; omega) (fun j hj => by rw [show 0 + 0 + j = j by omega]; exact hX.free j)
    (fun v hv => (Array.all_eq_true_iff_forall_mem.1 h1) v (by simpa using hv))
  have h3 := run_storeCells_at P b 0 T cells.toList 0 cur w hX (by simp; omega) (fun v hv => (Array.all_eq_true_iff_forall_mem.1 h1) v (by simpa using hv))
  have hrow : (cur.toList.take (0 + 0) ++ cells.toList ++ cur.toList.drop (0 + 0 + cells.toList.length)).toArray = cells := by
    rw [Nat.add_zero, Nat.zero_add, List.take_zero, List.drop_eq_nil_of_le (by simp; omega)]
    simp
  rw [hrow] at h3
  rw [h2] at h3
  simpa using h3
structure Put (T : TypeId) (w : World) (b : Nat) (cells : Array Value) (w' : World) : Prop where
  box : Bx T w' b cells
  below : Below b w w'
  other : ∀ j, j ≠ b → w'.heap[j]? = w.heap[j]?
theorem Put.keep {T U : TypeId} {w w' : World} {b c : Nat} {cells cs : Array Value} (h : Put T w b cells w') (hX : Bx U w c cs) (hc : c ≠ b) : Bx U w' c cs := hX.same (h.other c hc)
theorem Put.on {T : TypeId} {w w' v : World} {b B : Nat} {cells : Array Value} (h : Put T w b cells w') (hb : Below B v w) (hB : B ≤ b) : Below B v w' :=
  hb.trans ⟨h.below.os, h.below.tape, h.below.output, h.below.size, fun j hj => h.other j (by omega)⟩
theorem put_row {T : TypeId} {w : World} {b : Nat} {cur cells : Array Value} (hX : Bx T w b cur) : Put T w b cells (w.setRow b cells) :=
  ⟨show _ = _ from setRow_heap w b _ _ T _ hX, ⟨rfl, rfl, rfl, by simp [World.setRow], fun k hk => setRow_other w b k _ (by omega)⟩, fun k hk => setRow_other w b k _ (by omega)⟩
theorem there_of {T : TypeId} {w : World} {b n : Nat} {cs : Array Value} (h : Bx T w b cs) (hn : n ≤ cs.size) : w.there b 0 n := fun j hj => by
  rw [Nat.zero_add, h.cell j]
  exact ⟨by simp; omega, h.free j⟩
theorem range_of {T : TypeId} {w : World} {b : Nat} {cs : Array Value} (h : Bx T w b cs) : w.rangeAt b 0 cs.toList := fun j v hj => by
  rw [Nat.zero_add, h.cell j]; simpa using hj
/-- A whole variable stored, in a region that draws its order. -/
theorem step_store {P : Program} {ops : Array Oper} {ts : Array Value} {o : Oper} {a : Act} {w : World} {K : Act → World → Prop} {Q : Exit → Act → World → Prop} {E : Prop} (hgd : o.guard = none) (ty : TypeId) (x y : Operand) (ho : o.op = .store ty x y)
    (b : Nat) (cells : Array Value) (hx : a.eval x = .pointer (some ⟨b, 0, none⟩)) (hy : a.eval y = .agg cells) (T : TypeId) (cur : Array Value) (hX : Bx T w b cur) (hs : cur.size = cells.size)
    (hi : (P.info? ty).map (·.size) = some cells.size) (h1 : cells.all (·.oneCell') = true) (h : ∀ w', Put T w b cells w' → K (a.put o.dst undef) w') :
    if Region.wanted o (yielded ops ts) = true then Oper.wp P o a w K Q else E := by
  have hw : Region.wanted o (yielded ops ts) = true := by simp [Region.wanted, hgd]
  rw [if_pos hw]
  refine wp_store_mid ty x y ho b 0 cells hx hy (there_of hX (by omega)) hi h1 ?_
  rw [cells_row (P := P) hX hs h1]
  exact h _ (put_row hX)
/-- The same in a region of one order. -/
theorem list_store {P : Program} {ops : Array Oper} {rest : List Oper} {o : Oper} {a : Act} {w : World} {Q : Exit → Act → World → Prop} (hgd : o.guard = none) (ty : TypeId) (x y : Operand) (ho : o.op = .store ty x y)
    (b : Nat) (cells : Array Value) (hx : a.eval x = .pointer (some ⟨b, 0, none⟩)) (hy : a.eval y = .agg cells) (T : TypeId) (cur : Array Value) (hX : Bx T w b cur) (hs : cur.size = cells.size)
    (hi : (P.info? ty).map (·.size) = some cells.size) (h1 : cells.all (·.oneCell') = true) (h : ∀ w', Put T w b cells w' → wpList P ops Q rest (a.put o.dst undef) w') : wpList P ops Q (o :: rest) a w := by
  refine wpList_store_mid hgd ty x y ho b 0 cells hx hy (there_of hX (by omega)) hi h1 ?_
  rw [cells_row (P := P) hX hs h1]
  exact h _ (put_row hX)
theorem list_load {P : Program} {ops : Array Oper} {rest : List Oper} {o : Oper} {a : Act} {w : World} {Q : Exit → Act → World → Prop} (hgd : o.guard = none) (ty : TypeId) (x : Operand) (ho : o.op = .load ty x)
    (b : Nat) (hx : a.eval x = .pointer (some ⟨b, 0, none⟩)) (T : TypeId) (cur : Array Value) (hX : Bx T w b cur) {d : TypeDesc} (hu : P.underlying ty = some d) (hd : d.isRow = true) (hi : (P.info? ty).map (·.size) = some cur.size)
    (h : wpList P ops Q rest (a.put o.dst (.agg cur)) w) : wpList P ops Q (o :: rest) a w := by
  refine wpList_load_mid hgd ty x ho b 0 hx cur.toList d (range_of hX) hu hd (by simpa using hi) ?_
  simpa using h
/-- A whole variable loaded, in a region that draws its order; a part of it. -/
theorem step_load {P : Program} {ops : Array Oper} {ts : Array Value} {o : Oper} {a : Act} {w : World} {K : Act → World → Prop} {Q : Exit → Act → World → Prop} {E : Prop} (hgd : o.guard = none) (ty : TypeId) (x : Operand) (ho : o.op = .load ty x)
    (b : Nat) (hx : a.eval x = .pointer (some ⟨b, 0, none⟩)) (T : TypeId) (cur : Array Value) (hX : Bx T w b cur) {d : TypeDesc} (hu : P.underlying ty = some d) (hd : d.isRow = true) (hi : (P.info? ty).map (·.size) = some cur.size)
    (h : K (a.put o.dst (.agg cur)) w) : if Region.wanted o (yielded ops ts) = true then Oper.wp P o a w K Q else E := by
  have hw : Region.wanted o (yielded ops ts) = true := by simp [Region.wanted, hgd]
  rw [if_pos hw]
  refine wp_load_mid ty x ho b 0 hx cur.toList d (range_of hX) hu hd (by simpa using hi) ?_
  simpa using h
theorem range_part {T : TypeId} {w : World} {b : Nat} {cur : Array Value} (hX : Bx T w b cur) (off : Nat) (cs : List Value) (he : cs = (cur.toList.drop off).take cs.length) : w.rangeAt b off cs := fun j v hj => by
  rw [hX.cell]
  rw [he] at hj
  rw [List.getElem?_take] at hj
  split at hj
  · rw [List.getElem?_drop] at hj; simpa using hj
  · cases hj
theorem step_part {P : Program} {ops : Array Oper} {ts : Array Value} {o : Oper} {a : Act} {w : World} {K : Act → World → Prop} {Q : Exit → Act → World → Prop} {E : Prop} (hgd : o.guard = none) (ty : TypeId) (x : Operand) (ho : o.op = .load ty x)
    (b off : Nat) (cs : List Value) (hx : a.eval x = .pointer (some ⟨b, off, none⟩)) (T : TypeId) (cur : Array Value) (hX : Bx T w b cur) (he : cs = (cur.toList.drop off).take cs.length) {d : TypeDesc} (hu : P.underlying ty = some d) (hd : d.isRow = true) (hi : (P.info? ty).map (·.size) = some cs.length)
    (h : K (a.put o.dst (.agg cs.toArray)) w) : if Region.wanted o (yielded ops ts) = true then Oper.wp P o a w K Q else E := by
  have hw : Region.wanted o (yielded ops ts) = true := by simp [Region.wanted, hgd]
  rw [if_pos hw]
  exact wp_load_mid ty x ho b off hx cs d (range_part hX off cs he) hu hd hi h
/-- A whole variable handed back. -/
theorem back {P : Program} {w : World} {b : Nat} {ty T : TypeId} {cur : Array Value} {d : TypeDesc} (hX : Bx T w b cur) (hu : P.underlying ty = some d) (hd : d.isRow = true) (hi : (P.info? ty).map (·.size) = some cur.size) :
    ((asAddr (.pointer (some ⟨b, 0, none⟩))).run P w).andThen (fun a w₁ => (loadVar ty a).run P w₁) = .ok (.agg cur) w := by
  have := run_loadVar_mid w b 0 ty cur.toList d (range_of hX) hu hd (by simpa using hi)
  rw [Array.toArray_toList] at this
  exact this
theorem back2 {P : Program} {w : World} {b : Nat} {ty T : TypeId} {cur : Array Value} {d : TypeDesc} (hX : Bx T w b cur) (hu : P.underlying ty = some d) (hd : d.isRow = true) (hi : (P.info? ty).map (·.size) = some cur.size) (x : Value) :
    ((asAddr (.pointer (some ⟨b, 0, none⟩))).run P w).andThen (fun a w₁ => ((loadVar ty a).run P w₁).andThen fun v w₂ => Result.ok (Value.tuple #[v, x]) w₂) = Result.ok (Value.tuple #[.agg cur, x]) w := by
  have h := back hX hu hd hi
  have e : ((asAddr (.pointer (some ⟨b, 0, none⟩))).run P w).andThen (fun a w₁ => ((loadVar ty a).run P w₁).andThen fun v w₂ => Result.ok (Value.tuple #[v, x]) w₂) = (((asAddr (.pointer (some ⟨b, 0, none⟩))).run P w).andThen (fun a w₁ => (loadVar ty a).run P w₁)).andThen fun v w₂ => Result.ok (Value.tuple #[v, x]) w₂ := by
    cases (asAddr (.pointer (some ⟨b, 0, none⟩))).run P w <;> rfl
  rw [e, h]
  rfl
/-- A variable that the region makes: where it lies, and what it holds. -/
def mk (T : TypeId) (B : Nat) (cs : Array Value) : reg.Stay reg.Bel := ⟨fun v w => ∃ p, v = .pointer (some ⟨p, 0, none⟩) ∧ B < p ∧ Bx T w p cs, fun v w w' ⟨p, h1, h2, h3⟩ hb => ⟨p, h1, h2, h3.below hb⟩⟩
/-- 'clear' of a slice of one element of many cells. -/
theorem run_clear_one {P : Program} (w : World) (t e ty : TypeId) (zs : Array Value) (ht : P.underlying t = some (.slice e)) (hv : ∀ w, (zeroValue e).run P w = .ok (.agg zs) w) (h1 : zs.all (·.oneCell') = true) (b c : Nat) (T : TypeId) (cur : Array Value) (hX : Bx T w b cur) (hs : cur.size = zs.size) (hz : 0 < zs.size) :
    (Builtin.clear_ #[t] ty #[.slice (some ⟨b, 0, none⟩) 1 c]).run P w = .ok (.tuple #[]) (w.setRow b zs) := by
  have hzc : (Builtin.zeroCells zs 1).toList = zs.toList := by
    simp [Builtin.zeroCells]
    apply List.ext_getElem
    · simp
    · intro i g1 g2
      simp at g1
      have : i < zs.size := by simpa using g2
      simp [Nat.mod_eq_of_lt this]
      exact getElem!_pos zs i this
  have h2 := run_storeCells_cells (P := P) b 0 zs.toList 0 w (fun j hj => by rw [show 0 + 0 + j = j by omega, hX.cell j]; simp at hj; simp; omega) (fun j hj => by rw [show 0 + 0 + j = j by omega]; exact hX.free j)
    (fun v hv => (Array.all_eq_true_iff_forall_mem.1 h1) v (by simpa using hv))
  simp only [Nat.add_zero] at h2
  rw [cells_row (P := P) hX hs h1] at h2
  simp [Builtin.clear_, run_underlying ht, hv, Value.cells, hzc, h2]
end Go.Proofs.Ytalfihfielgmpaa.stw
