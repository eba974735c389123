/- Rows of numbers of the call's own whose block may bear a mark that hits none of their cells ('[]byte(s)' makes such a row): as Ow, but nothing is appended onto them; marking them. Condition: sizes up to 2^26. -/
import Derived.Test.YtejjafmppihneaaOwn
import Derived.Test.YtejjafmppihneaaStrBytes
namespace Go.Proofs.Ytejjafmppihneaa.om
open Go.RowKit sl harn
set_option linter.unusedVariables false
set_option linter.unusedSimpArgs false

/-- A slice of numbers of the call's own; the mark of its block hits none of its cells. -/
def Om (E : TypeId) (k : IntKind) (w : World) (lo hi : Nat) (A : Option Addr) (n cap : Nat) (zs : List Int) : Prop :=
  zs.length = n ∧ n ≤ cap ∧ cap ≤ maxLen ∧ Wf k zs ∧ hi ≤ w.heap.size ∧ ((A = none ∧ n = 0 ∧ cap = 0) ∨ ∃ (g : Nat) (cur : Array Value) (fz : Nat × Nat), A = some ⟨g, 0, none⟩ ∧ lo ≤ g ∧ g < hi ∧ w.heap[g]? = some (.cells cur E fz) ∧ (∀ j, j < n → ¬ (fz.1 ≤ j ∧ j < fz.2)) ∧ cur.size = cap ∧ cur.toList.take n = zs.map (Value.int k))
section
variable {E : TypeId} {k : IntKind} {w w' : World} {n cap lo hi : Nat} {A : Option Addr} {zs : List Int}
theorem Om.len (h : Om E k w lo hi A n cap zs) : zs.length = n := h.1
theorem Om.cap_ (h : Om E k w lo hi A n cap zs) : n ≤ cap ∧ cap ≤ 9223372036854775807 := ⟨h.2.1, by have := h.2.2.1; unfold maxLen at this; omega⟩
theorem Om.wf (h : Om E k w lo hi A n cap zs) : Wf k zs := h.2.2.2.1
theorem Om.hi_ (h : Om E k w lo hi A n cap zs) : hi ≤ w.heap.size := h.2.2.2.2.1
theorem of_ow (h : Ow E k w lo hi A n cap zs) : Om E k w lo hi A n cap zs := by
  rcases h.form with ⟨h1, h2, h3⟩ | ⟨g, cur, h1, h2, h3, h4, h5, h6, h7, h8⟩
  · exact ⟨h.len, by omega, by unfold maxLen; omega, h.wf, h.hi_, .inl ⟨h1, h2, h3⟩⟩
  · exact ⟨h.len, h5, h6, h.wf, h.hi_, .inr ⟨g, cur, (0, 0), h1, h2, h3, h4, fun j _ h => by have := h.2; simp at this, h7, h8⟩⟩
theorem Om.same (h : Om E k w lo hi A n cap zs) (hs : w.heap.size ≤ w'.heap.size) (hb : ∀ b, lo ≤ b → b < hi → w'.heap[b]? = w.heap[b]?) : Om E k w' lo hi A n cap zs := by
  obtain ⟨h1, h2, h3, h4, h5, h6⟩ := h
  refine ⟨h1, h2, h3, h4, by omega, ?_⟩
  rcases h6 with h6 | ⟨g, cur, fz, e, g1, g2, g3, g4⟩
  · exact .inl h6
  · exact .inr ⟨g, cur, fz, e, g1, g2, (hb g g1 g2).trans g3, g4⟩
theorem Om.below (h : Om E k w lo hi A n cap zs) (hb : Below w.heap.size w w') : Om E k w' lo hi A n cap zs := h.same hb.size fun b _ hlt => hb.block b (by have := h.hi_; omega)
theorem Om.rd (h : Om E k w lo hi A n cap zs) : Rd k w lo hi A n cap zs := by
  obtain ⟨h1, h2, h3, h4, h5, h6⟩ := h
  refine ⟨h1, h2, h3, h5, h4, fun hn => ?_⟩
  rcases h6 with h6 | ⟨g, cur, fz, e, g1, g2, g3, g4, g5, g6⟩
  · omega
  · refine ⟨g, 0, e, g1, g2, fun i hi' => ?_⟩
    have h7 : (cur.toList.take n)[i]? = some (.int k (zs.getD i 0)) := by
      rw [g6, List.getElem?_map, List.getElem?_eq_getElem (by omega), List.getD_eq_getElem?_getD, List.getElem?_eq_getElem (by omega)]; rfl
    rw [List.getElem?_take] at h7
    split at h7
    · rw [Nat.zero_add]
      simp only [World.cell?, g3]
      simpa using h7
    · omega
theorem Om.free {g : Nat} (h : Om E k w lo hi (some ⟨g, 0, none⟩) n cap zs) {j : Nat} (hj : j < n) : w.frozen? ⟨g, j, none⟩ = false := by
  obtain ⟨h1, h2, h3, h4, h5, h6⟩ := h
  rcases h6 with ⟨h6, _⟩ | ⟨g', cur, fz, e, g1, g2, g3, g4, g5, g6⟩
  · cases h6
  · injection e with e; injection e with e _; subst e
    have := g4 j hj
    simp only [World.frozen?, g3]
    simpa [Bool.and_eq_false_iff, Nat.not_le, Nat.not_lt, Classical.not_and_iff_not_or_not] using this
theorem heap_set (w : World) {b : Nat} {c : Array Value} {E : TypeId} {fz : Nat × Nat} (h : w.heap[b]? = some (.cells c E fz)) (i : Nat) (v : Value) : (w.setCell ⟨b, i, none⟩ v).heap[b]? = some (.cells (c.setIfInBounds i v) E fz) := by
  have hb := (Array.getElem?_eq_some_iff.1 h)
  obtain ⟨hb, he⟩ := hb
  unfold World.setCell
  simp only [Array.getElem?_modify, if_pos, h, Option.map_some]
  rfl
theorem Om.set {g : Nat} (h : Om E k w lo hi (some ⟨g, 0, none⟩) n cap zs) (i : Nat) (v : Int) (hv : (Lit.int k v).wf = true) : Om E k (w.setCell ⟨g, i, none⟩ (.int k v)) lo hi (some ⟨g, 0, none⟩) n cap (zs.set i v) := by
  obtain ⟨h1, h2, h3, h4, h5, h6⟩ := h
  refine ⟨by simpa using h1, h2, h3, ?_, by simpa [World.setCell] using h5, ?_⟩
  · intro z hz
    rcases List.mem_or_eq_of_mem_set hz with hz | hz
    · exact h4 z hz
    · rw [hz]; exact hv
  · rcases h6 with ⟨h6, _⟩ | ⟨g', cur, fz, e, g1, g2, g3, g4, g5, g6⟩
    · cases h6
    · injection e with e; injection e with e _; subst e
      refine .inr ⟨g, _, fz, rfl, g1, g2, heap_set w g3 i _, g4, by simpa using g5, ?_⟩
      rw [Array.toList_setIfInBounds, List.take_set, g6, List.map_set]
theorem om_in (h : Om E k w lo hi A n cap zs) {g : Nat} (e : A = some ⟨g, 0, none⟩) : lo ≤ g ∧ g < hi := by
  rcases h.2.2.2.2.2 with ⟨h6, _⟩ | ⟨g', cur, fz, e', g1, g2, _⟩
  · rw [h6] at e; cases e
  · rw [e'] at e; injection e with e; injection e with e _; omega
theorem om_at (h : Om E k w lo hi A n cap zs) (hn : 0 < n) : ∃ g, A = some ⟨g, 0, none⟩ := by
  rcases h.2.2.2.2.2 with ⟨_, h6, _⟩ | ⟨g', cur, fz, e', _⟩
  · omega
  · exact ⟨g', e'⟩
end
/-- '[]byte(s)'. -/
theorem om_bytes (s : ByteArray) (w : World) (E : TypeId) (c m : Nat) (h1 : s.size ≤ c) (h2 : c ≤ maxLen) (hm : s.size ≤ m) :
    Om E .u8 (w.drew.alloc (.cells (bytesRow s c) E (m, m + 1))) w.heap.size (w.heap.size + 1) (some ⟨w.heap.size, 0, none⟩) s.size c (sb s) := by
  refine ⟨sb_len s, h1, h2, sb_wf s, by show w.heap.size + 1 ≤ (w.heap.push _).size; simp, .inr ⟨w.heap.size, bytesRow s c, (m, m + 1), rfl, Nat.le_refl _, by omega, ?_, fun j hj h => by have h3 : m ≤ j := h.1; omega, ?_, ?_⟩⟩
  · show (w.heap.push _)[w.heap.size]? = _
    simp
  · have : s.data.size = s.size := rfl
    simp only [bytesRow, Array.size_append, Array.size_map, Array.size_replicate]
    omega
  · have h0 : s.data.size = s.size := rfl
    simp only [bytesRow, Array.toList_append]
    rw [List.take_append_of_le_length (by simp [h0]), List.take_of_length_le (by simp [h0])]
    simp [sb, Function.comp_def]
/-- A marking that has come to i. -/
def Mk8 (E : TypeId) (w wr : World) (lo hi : Nat) (A : Option Addr) (n cap : Nat) (k : Int) (i : Nat) : Prop :=
  ∃ ys, Om E .u8 wr lo hi A n cap ys ∧ (∀ j, j < i → ys.getD j 0 = IntKind.u8.wrap (k + j)) ∧ w.heap.size = wr.heap.size ∧ (wr.os = w.os ∧ wr.tape = w.tape ∧ wr.output = w.output) ∧ ∀ q, (∀ o, A ≠ some ⟨q, o, none⟩) → wr.heap[q]? = w.heap[q]?
theorem Mk8.step {E : TypeId} {w wr : World} {lo hi n cap : Nat} {k : Int} {i b : Nat} (h : Mk8 E w wr lo hi (some ⟨b, 0, none⟩) n cap k i) (hi' : i < n) : Mk8 E w (wr.setCell ⟨b, i, none⟩ (.int .u8 (IntKind.u8.wrap (k + i)))) lo hi (some ⟨b, 0, none⟩) n cap k (i + 1) := by
  obtain ⟨ys, h1, h2, h3, h4, h5⟩ := h
  have hl := h1.len
  refine ⟨_, h1.set i _ (wf_u8_wrap _), fun j hj => ?_, by simpa [World.setCell] using h3, h4, fun q hq => ?_⟩
  · rw [List.getD_eq_getElem?_getD, List.getElem?_set]
    by_cases e : i = j
    · subst e
      rw [if_pos rfl, if_pos (by omega)]; rfl
    · rw [if_neg e, ← List.getD_eq_getElem?_getD]; exact h2 j (by omega)
  · rw [← h5 q hq]
    exact Below.heap_setCell _ _ _ _ (fun e => hq 0 (by rw [e]))
end Go.Proofs.Ytejjafmppihneaa.om
