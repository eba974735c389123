/- The sensed senders, the program's function. Condition: at most 2^26 positions. -/
import Derived.Test.YtejjafmppihneaaPl3
import Derived.Test.YtejjafmppihneaaRfm
namespace Go.Proofs.Ytejjafmppihneaa.bx
open Go.RowKit sl harn rng plm rfm
set_option linter.unusedVariables false

theorem boolInfo : (Try.prog.info? 4).map (fun i => (i.zero, i.size, i.bytes)) = some (some (.bool false), 1, 1) := by kernel_rfl
/-- A row of bools in a block of its own. -/
def Bw (w : World) (b n : Nat) (p : Nat → Bool) : Prop := ∃ cs, w.heap[b]? = some (.cells cs 4 (0, 0)) ∧ cs.size = n ∧ ∀ j, j < n → cs[j]? = some (.bool (p j))
theorem made_at (z : Value) (n j : Nat) (h : j < n) : (madeCells #[z] n)[j]? = some z := by
  rw [Array.getElem?_eq_getElem (by rw [size_madeCells]; exact h)]
  simp [madeCells, Nat.mod_one]
theorem Bw.start (w : World) (b n : Nat) (z : Array Value) (hz : z = #[.bool false]) (hb : b = w.heap.size) (p : Nat → Bool) (hp : ∀ j, j < n → p j = false) : Bw (w.alloc (.cells (madeCells z n) 4)) b n p := by
  subst hz hb
  exact ⟨_, heap_alloc_new w _, size_madeCells _ n, fun j h => by rw [made_at _ _ _ h, hp j h]⟩
section
variable {w w' : World} {b n : Nat} {p : Nat → Bool}
theorem Bw.lt (h : Bw w b n p) : b < w.heap.size := by obtain ⟨cs, h1, _⟩ := h; exact lt_of_block h1
theorem Bw.same (h : Bw w b n p) (hb : w'.heap[b]? = w.heap[b]?) : Bw w' b n p := by obtain ⟨cs, h1, h2⟩ := h; exact ⟨cs, by rw [hb]; exact h1, h2⟩
theorem Bw.below (h : Bw w b n p) (hb : Below w.heap.size w w') : Bw w' b n p := h.same (hb.block b h.lt)
theorem Bw.cell (h : Bw w b n p) {j : Nat} (hj : j < n) : w.cell? ⟨b, j, none⟩ = some (.bool (p j)) := by
  obtain ⟨cs, h1, h2, h3⟩ := h
  simp only [World.cell?, h1]
  exact h3 j hj
theorem Bw.free (h : Bw w b n p) (i : Nat) : w.frozen? ⟨b, i, none⟩ = false := by
  obtain ⟨cs, h1, _⟩ := h
  simp [World.frozen?, h1]
theorem Bw.put (h : Bw w b n p) {x : Nat} (hx : x < n) (p' : Nat → Bool) (hp : ∀ j, p' j = (decide (j = x) || p j)) : Bw (w.setCell ⟨b, x, none⟩ (.bool true)) b n p' := by
  obtain ⟨cs, h1, h2, h3⟩ := h
  refine ⟨cs.setIfInBounds x (.bool true), heap_setCell_same w b x cs _ _ h1, by simpa using h2, fun j hj => ?_⟩
  by_cases e : j = x
  · subst e
    rw [Array.getElem?_setIfInBounds_self_of_lt (by omega), hp]; simp
  · rw [Array.getElem?_setIfInBounds_ne (by omega), h3 j hj, hp, decide_eq_false e, Bool.false_or]
theorem Bw.congr (h : Bw w b n p) (p' : Nat → Bool) (hp : ∀ j, p' j = p j) : Bw w b n p' := by
  obtain ⟨cs, h1, h2, h3⟩ := h
  exact ⟨cs, h1, h2, fun j hj => by rw [hp]; exact h3 j hj⟩
end
theorem mrk_zero (z : List Int) (s : Int) (l : List Int) (q : Int) (j : Nat) : mrk z s l q 0 j = false := by unfold mrk; exact decide_eq_false fun h => by simpa using h.1
theorem mrk_end {z : List Int} {s : Int} {l : List Int} {q : Int} {n : Nat} (h : l.length = n) (j : Nat) : mrk z s l q n j = decide ((j : Int) ∈ l ∧ win z s j q = true) := by unfold mrk; rw [List.take_of_length_le (by omega)]
end Go.Proofs.Ytejjafmppihneaa.bx
