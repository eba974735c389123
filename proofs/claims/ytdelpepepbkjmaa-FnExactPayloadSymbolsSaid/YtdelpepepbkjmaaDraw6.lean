/- The draws of stage 4: bit strings, sometimes with an element that is no bit; bytes. Condition: the bytes that are drawn from are a slice that came in. -/
import Derived.Test.YtdelpepepbkjmaaDraw5
namespace Go.Proofs.Ytdelpepepbkjmaa.draw
open Go.RowKit sl harn

/-- What stands behind a change of one cell of a row of the call's own. -/
theorem ow_set {E : TypeId} {k : IntKind} {w : World} {lo hi n cap b : Nat} {zs : List Int} (h : Ow E k w lo hi (some ⟨b, 0, none⟩) n cap zs) (i : Nat) (v : Int) (hv : (Lit.int k v).wf = true) : Ow E k (w.setCell ⟨b, i, none⟩ (.int k v)) lo hi (some ⟨b, 0, none⟩) n cap (zs.set i v) := by
  have hs := h.1.stored i (.int k v)
  have e : (zs.map (Value.int k)).set i (.int k v) = (zs.set i v).map (Value.int k) := by rw [List.map_set]
  refine ⟨?_, ?_, ?_, h.2.2.2⟩
  · rw [← e]; exact hs.1
  · intro z hz
    rcases List.mem_or_eq_of_mem_set hz with hz | hz
    · exact h.wf z hz
    · rw [hz]; exact hv
  · have := h.hi_; simpa [World.setCell] using this
theorem In.set {lo hi : Int} {zs : List Int} (h : In lo hi zs) (i : Nat) {x : Int} (h1 : lo ≤ x) (h2 : x ≤ hi) : In lo hi (zs.set i x) := fun z hz => by
  rcases List.mem_or_eq_of_mem_set hz with hz | hz
  · exact h z hz
  · rw [hz]; exact ⟨h1, h2⟩
theorem In.wide {lo hi lo2 hi2 : Int} {zs : List Int} (h : In lo hi zs) (h1 : lo2 ≤ lo) (h2 : hi ≤ hi2) : In lo2 hi2 zs := fun z hz => by
  have := h z hz; omega
theorem SomeInts.wide {lo hi lo2 hi2 : Int} {N : Nat} {p : Nat} {a : Option Addr} {len cap : Nat} {w w' : World} {e : Ending} (h : SomeInts lo hi N p a len cap w e w') (h1 : lo2 ≤ lo) (h2 : hi ≤ hi2) : SomeInts lo2 hi2 N p a len cap w e w' := by
  obtain ⟨A, n, c, zs, e1, e2, e3, e4, e5⟩ := h
  exact ⟨A, n, c, zs, e1, e2, e3, e4.wide h1 h2, e5⟩
theorem cell_of {E : TypeId} {k : IntKind} {w : World} {lo hi n cap b : Nat} {zs : List Int} (h : Ow E k w lo hi (some ⟨b, 0, none⟩) n cap zs) {j : Nat} (hj : j < n) : w.cell? ⟨b, j, none⟩ = some (.int k (zs.getD j 0)) := by
  obtain ⟨b', off, e, _, _, hc⟩ := h.rd.at_ hj
  injection e with e; injection e with e1 e2 e3
  subst e1 e2
  rwa [Nat.zero_add] at hc
end Go.Proofs.Ytdelpepepbkjmaa.draw
