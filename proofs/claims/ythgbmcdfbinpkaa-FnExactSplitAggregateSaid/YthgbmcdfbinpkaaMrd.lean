/- An element removed from a row of the call's own; cuts of a slice of structs. Condition: none. -/
import Derived.Test.YthgbmcdfbinpkaaRgp
namespace Go.Proofs.Ythgbmcdfbinpkaa.mrw
open Go.RowKit sl harn bx
set_option linter.unusedVariables false
set_option linter.unusedSectionVars false
set_option linter.unusedSimpArgs false

section
variable {P : Program} (t E : TypeId) (i0 : TypeInfo) (s : Nat) (hu : P.underlying t = some (.slice E)) (hi : P.info? E = some i0) (hs : i0.size = s)
include hu hi hs
theorem sliceS_pre (g n cap j : Nat) (hj : j ≤ cap) (W : World) : (Instr.slice t (.slice (some ⟨g, 0, none⟩) n cap) none (some (.int .i64 j)) none).run P W = .ok (.slice (some ⟨g, 0, none⟩) j cap) W := by
  have hj2 : (j : Int) ≤ cap := by omega
  simp [Instr.slice, run_underlying hu, Instr.sliceBounds, Instr.sliceBound, sizeOf, typeInfo, hi, hs, go_sem]
  intro h; omega
theorem sliceS_post (g n cap j : Nat) (hj : j ≤ n) (hc : n ≤ cap) : ∃ ad : Addr, (j < n → ad = ⟨g, j * s, none⟩) ∧ ∀ W, (Instr.slice t (.slice (some ⟨g, 0, none⟩) n cap) (some (.int .i64 j)) none none).run P W = .ok (.slice (some ad) (n - j) (cap - j)) W := by
  refine ⟨if cap = j then ⟨g, 0, none⟩ else ⟨g, j * s, none⟩, fun h => ?_, fun W => ?_⟩
  · rw [if_neg (by omega)]
  · have hj2 : (j : Int) ≤ n := by omega
    simp [Instr.slice, run_underlying hu, Instr.sliceBounds, Instr.sliceBound, sizeOf, typeInfo, hi, hs, go_sem]
    rw [if_pos hj]
    congr 2
    split
    · rfl
    · rfl
theorem sliceS_mid (g n cap j m : Nat) (hj : j < m) (hm : m ≤ cap) (W : World) : (Instr.slice t (.slice (some ⟨g, 0, none⟩) n cap) (some (.int .i64 j)) (some (.int .i64 m)) none).run P W = .ok (.slice (some ⟨g, j * s, none⟩) (m - j) (cap - j)) W := by
  have hj2 : (j : Int) ≤ m := by omega
  have hj3 : (m : Int) ≤ cap := by omega
  simp [Instr.slice, run_underlying hu, Instr.sliceBounds, Instr.sliceBound, sizeOf, typeInfo, hi, hs, go_sem]
  rw [if_pos hm, if_pos (by omega), if_neg (by omega)]
theorem sliceS_three (g n cap j m c : Nat) (hj : j < m) (hm : m ≤ c) (hc : c ≤ cap) (W : World) : (Instr.slice t (.slice (some ⟨g, 0, none⟩) n cap) (some (.int .i64 j)) (some (.int .i64 m)) (some (.int .i64 c))).run P W = .ok (.slice (some ⟨g, j * s, none⟩) (m - j) (c - j)) W := by
  have hj2 : (j : Int) ≤ m := by omega
  have hj3 : (m : Int) ≤ c := by omega
  have hj4 : (c : Int) ≤ cap := by omega
  simp [Instr.slice, run_underlying hu, Instr.sliceBounds, Instr.sliceBound, sizeOf, typeInfo, hi, hs, go_sem]
  rw [if_pos hc, if_pos hm, if_pos (by omega), if_neg (by omega)]
end
section
variable {P : Program}
theorem at_slice (t E : TypeId) (hu : P.underlying t = some (.slice E)) (x : Value) (lo hi mx : Option Value) (W : World) : (Instr.sliceAt t x lo hi mx).run P W = (Instr.slice t x lo hi mx).run P W := by
  simp [Instr.sliceAt, run_underlying hu]
theorem wp_slice_h {o : Oper} {a : Act} {w : World} {K : Act → World → Prop} {Q : Exit → Act → World → Prop} (t : TypeId) (x y : Operand) (ho : o.op = .slice t x none (some y) none) (v yv r : Value) (hx : a.eval x = v) (hy : a.eval y = yv)
    (hr : ∀ W, (Instr.sliceAt t v none (some yv) none).run P W = .ok r W) (hK : K (a.put o.dst r) w) : Oper.wp P o a w K Q := by
  unfold Oper.wp execOp
  simp only [ho, Option.map_some, Option.map_none, hx, hy, Sem.run_bind, hr, Result.andThen_ok, Sem.run_pure]
  exact hK
theorem wp_slice_l {o : Oper} {a : Act} {w : World} {K : Act → World → Prop} {Q : Exit → Act → World → Prop} (t : TypeId) (x y : Operand) (ho : o.op = .slice t x (some y) none none) (v yv r : Value) (hx : a.eval x = v) (hy : a.eval y = yv)
    (hr : ∀ W, (Instr.sliceAt t v (some yv) none none).run P W = .ok r W) (hK : K (a.put o.dst r) w) : Oper.wp P o a w K Q := by
  unfold Oper.wp execOp
  simp only [ho, Option.map_some, Option.map_none, hx, hy, Sem.run_bind, hr, Result.andThen_ok, Sem.run_pure]
  exact hK
/-- 'clear' of one element within a row. -/
theorem run_clear_at (w : World) (t e ty : TypeId) (zs : Array Value) (ht : P.underlying t = some (.slice e)) (hv : ∀ w, (zeroValue e).run P w = .ok (.agg zs) w) (h1 : zs.all (·.oneCell') = true) (b o c : Nat) (hz : 0 < zs.size) (hth : w.there b o zs.size) :
    (Builtin.clear_ #[t] ty #[.slice (some ⟨b, o, none⟩) 1 c]).run P w = .ok (.tuple #[]) (w.setCells b o zs.toList) := by
  have hzc : (Builtin.zeroCells zs 1).toList = zs.toList := by
    simp [Builtin.zeroCells]
    apply List.ext_getElem
    · simp
    · intro i g1 g2
      simp at g1
      have : i < zs.size := by simpa using g2
      simp [Nat.mod_eq_of_lt this]
      exact getElem!_pos zs i this
  have h2 := run_storeCells_cells (P := P) b o zs.toList 0 w (fun j hj => by simpa using (hth j (by simpa using hj)).1) (fun j hj => by simpa using (hth j (by simpa using hj)).2)
    (fun v hv => (Array.all_eq_true_iff_forall_mem.1 h1) v (by simpa using hv))
  simp only [Nat.add_zero] at h2
  simp [Builtin.clear_, run_underlying ht, hv, Value.cells, hzc, h2]
end
section
variable {α : Type} {S : Sh α} {w w' : World} {lo hi n cap : Nat} {A : Option Addr} {xs : List α} {es : List (El α)}
/-- The first of the elements. -/
theorem Oe.first {g : Nat} (h : Oe S w lo hi (some ⟨g, 0, none⟩) n cap es) {i : Nat} (hi' : i ≤ n) : Oe S w lo hi (some ⟨g, 0, none⟩) i cap (es.take i) := by
  obtain ⟨cur, h1, h2, h3, h4, h5, h6⟩ := row_at h.row
  refine ⟨⟨by rw [flat_len, List.length_take, h.len, Nat.min_eq_left hi'], .inr ⟨g, cap, cur, rfl, h2, h1, by omega, h4, h5, ?_⟩⟩, fun e he => h.body e (List.mem_of_mem_take he), List.Pairwise.sublist (List.take_sublist _ _) h.ds, h.hi_, h.lt⟩
  have := congrArg (List.take (i * S.s)) h6
  rw [List.take_take, Nat.min_eq_left (Nat.mul_le_mul_right _ hi'), flat_take] at this
  exact this
/-- An element removed by moving the others down, within the row. -/
theorem Oe.drop_ {P : Program} {g : Nat} (t ty : TypeId) (i : TypeInfo) (h1 : P.underlying t = some (.slice S.T)) (h2 : P.info? S.T = some i) (h4 : i.size = S.s) (h : Oe S w lo hi (some ⟨g, 0, none⟩) n cap es) {j : Nat} (hj : j < n) (ad : Addr) (had : j + 1 < n → ad = ⟨g, (j + 1) * S.s, none⟩) (c : Nat) :
    ∃ w', (Builtin.append_ #[t, t] ty #[.slice (some ⟨g, 0, none⟩) j cap, .slice (some ad) (n - (j + 1)) c]).run P w = .ok (.slice (some ⟨g, 0, none⟩) (n - 1) cap) w' ∧ Oe S w' lo hi (some ⟨g, 0, none⟩) (n - 1) cap (es.eraseIdx j) ∧ w.grownBy w' (some g) := by
  have hl := h.len
  have ho := h.first (i := j) (by omega)
  obtain ⟨cur, k1, k2, k3, k4, k5, k6⟩ := row_at h.row
  have hfl : (es.drop (j + 1)).length = n - (j + 1) := by rw [List.length_drop, hl]
  have hsrc : ∀ q u, (flat S (es.drop (j + 1)))[q]? = some u → w.cell? (ad.add q) = some u := by
    intro q u hu
    have hq := (List.getElem?_eq_some_iff.1 hu).1
    rw [flat_len, hfl] at hq
    have hlt : j + 1 < n := by
      rcases Nat.lt_or_ge (j + 1) n with h | h
      · exact h
      · rw [show n - (j + 1) = 0 by omega] at hq; omega
    rw [had hlt, Addr.add_mid, ← flat_drop, List.getElem?_drop] at *
    rw [h.row.cellAt _ (by
      have : (n - (j + 1)) * S.s + (j + 1) * S.s = n * S.s := by rw [← Nat.add_mul]; congr 1; omega
      omega)]
    exact hu
  obtain ⟨w', hr, g1, g2⟩ := run_append_fits (P := P) w lo t ty S.T i S.s h1 h2 h4 g j cap _ ho.row ad (n - (j + 1)) c (flat S (es.drop (j + 1))) (by rw [flat_len, hfl]) hsrc (flat_one S _) (by omega)
  rw [← flat_append, ← List.eraseIdx_eq_take_drop_succ] at g1
  have e : j + (n - (j + 1)) = n - 1 := by omega
  rw [e] at hr g1
  have hsub : List.Sublist (es.eraseIdx j) es := List.eraseIdx_sublist _ _
  exact ⟨w', hr, ⟨g1, fun x hx => ow_grown h g2 (h.body x (hsub.subset hx)), List.Pairwise.sublist hsub h.ds, by have := h.hi_; have := g2.size; omega, h.lt⟩, g2⟩
theorem list_drop {P : Program} (w : World) {ops : Array Oper} {rest : List Oper} {o : Oper} {a : Act} {Q : Exit → Act → World → Prop} (hgd : o.guard = none) (s x : Operand) (t : TypeId)
    (hop : o.op = .call { callee := .builtin .append, args := #[s, x], argTypes := #[t, t] }) {i : TypeInfo} (h1 : P.underlying t = some (.slice S.T)) (h2 : P.info? S.T = some i) (h4 : i.size = S.s)
    {g j lo hi n cap c q : Nat} {ad : Addr} {es : List (El α)} (hs : a.eval s = .slice (some ⟨g, 0, none⟩) j cap) (hx : a.eval x = .slice (some ad) q c) (hq : q = n - (j + 1)) (h : Oe S w lo hi (some ⟨g, 0, none⟩) n cap es) (hj : j < n) (had : j + 1 < n → ad = ⟨g, (j + 1) * S.s, none⟩)
    (hK : ∀ w', Oe S w' lo hi (some ⟨g, 0, none⟩) (n - 1) cap (es.eraseIdx j) → w.grownBy w' (some g) → wpList P ops Q rest (a.put o.dst (.slice (some ⟨g, 0, none⟩) (n - 1) cap)) w') : wpList P ops Q (o :: rest) a w := by
  subst hq
  refine wpList_plain hgd fun K hK' => ?_
  obtain ⟨w', hrun, g1, g2⟩ := h.drop_ (P := P) t o.type i h1 h2 h4 hj ad had c
  unfold Oper.wp execOp
  simp only [hop, resolve, invoke, builtin, Sem.run_bind, Sem.run_pure, Result.andThen_ok, List.map_toArray, List.map_cons, List.map_nil, hs, hx, hrun]
  exact hK' _ _ (hK w' g1 g2)
theorem grown_setCells {g o : Nat} (hg : w.grownBy w' (some g)) (vs : List Value) : w.grownBy (w'.setCells g o vs) (some g) := by
  have hb : ∀ (vs : List Value) (o : Nat) (u : World), (u.setCells g o vs).os = u.os ∧ (u.setCells g o vs).tape = u.tape ∧ (u.setCells g o vs).output = u.output := by
    intro vs
    induction vs with
    | nil => intro o u; exact ⟨rfl, rfl, rfl⟩
    | cons v r ih => intro o u; rw [World.setCells]; exact ih _ _
  obtain ⟨e1, e2, e3⟩ := hb vs o w'
  exact ⟨e1.trans hg.os, e2.trans hg.tape, e3.trans hg.output, by rw [size_setCells]; exact hg.size, fun k hk hne => by
    rw [heap_setCells_ne (fun e => hne (by rw [e]))]; exact hg.block k hk hne⟩
end
end Go.Proofs.Ythgbmcdfbinpkaa.mrw
