/- Marks of messages, with one more message kept beside. Condition: sizes up to 2^26. -/
import Derived.Test.YtjmenbpalihnnaaQh2
import Derived.Test.YtjmenbpalihnnaaMrg
import Derived.Test.YtjmenbpalihnnaaMra
namespace Go.Proofs.Ytjmenbpalihnnaa.mq
open Go.RowKit sl harn bx mrw
set_option linter.unusedVariables false
set_option linter.unusedSimpArgs false

/-- Nothing but the row and its elements' slices has changed. -/
def Only (A : Option Addr) (es0 : List (El Msg)) (w w' : World) : Prop := ∀ k, k < w.heap.size → blkOf A ≠ some k → (∀ e ∈ es0, ∀ a, e.A = some a → a.block ≠ k) → w'.heap[k]? = w.heap[k]?
def KfPost (ms : List Msg) (es0 : List (El Msg)) (f : El Msg) (zs : List Int) (w : World) (lo hi : Nat) (A : Option Addr) (n cap : Nat) (q : Int) (e : Ending) (w' : World) : Prop :=
  ∃ es, e = .returned (.int .i64 (q + tot ms)) ∧ es.map (·.x) = mks q ms ∧ Oe msg w' lo hi A n cap es ∧ Ow 5 .u8 w' lo hi f.A f.n f.c zs ∧ Ds (es ++ [f]) ∧ Tch lo hi w w' ∧ Only A es0 w w'
theorem set_same {α : Type} {l : List α} {j : Nat} {x : α} (h : l[j]? = some x) : l.set j x = l := by
  have hj := (List.getElem?_eq_some_iff.1 h).1
  rw [← (List.getElem?_eq_some_iff.1 h).2]
  exact List.set_getElem_self hj
theorem only_step {es0 es : List (El Msg)} {g j l r : Nat} {e : El Msg} {w wr w3 w4 : World} (h : Only (some ⟨g, 0, none⟩) es0 w wr) (hm : es.map (·.A) = es0.map (·.A)) (he : es[j]? = some e) (ht : Tch l r w3 w4) (hq : ∀ q, l ≤ q → q < r → ∃ a, e.A = some a ∧ a.block = q) (hs : w.heap.size ≤ w3.heap.size) (h3 : ∀ k, k ≠ g → w3.heap[k]? = wr.heap[k]?) : Only (some ⟨g, 0, none⟩) es0 w w4 := by
  intro k hk h1 h2
  rw [← h k hk h1 h2, ← h3 k (fun e => h1 (by rw [e]; rfl))]
  refine ht.block k (by omega) ?_
  rcases Nat.lt_or_ge k l with g1 | g1
  · exact Or.inl g1
  · rcases Nat.lt_or_ge k r with g2 | g2
    · exfalso
      obtain ⟨a, ha, hb⟩ := hq k g1 g2
      have h9 : (es0.map (·.A))[j]? = some e.A := by rw [← hm, List.getElem?_map, he]; rfl
      rw [List.getElem?_map] at h9
      cases h8 : es0[j]? with
      | none => rw [h8] at h9; cases h9
      | some e0 =>
        rw [h8] at h9
        have h7 : e0.A = e.A := by simpa using h9
        exact h2 e0 (List.mem_of_getElem? h8) a (h7.trans ha) hb
    · exact Or.inr g2
end Go.Proofs.Ytjmenbpalihnnaa.mq
