/- Two slices side by side in memory, as slices.Concat reads them. Condition: none. -/
import Derived.Test.YtcfgjlolabnolaaConcat
import Derived.Test.YtcfgjlolabnolaaKeyed
namespace Go.Proofs.Ytcfgjlolabnolaa.cat
open Go.RowKit sl harn hsh


theorem cell_at {w : World} {b i : Nat} {cs : Array Value} {t : TypeId} {v : Value} (h : w.heap[b]? = some (.cells cs t (0, 0))) (hi : cs[i]? = some v) : w.cell? ⟨b, i, none⟩ = some v := by simp [World.cell?, h, hi]
def pair (A : Option Addr) (n cap : Nat) (zs : List Int) (B : Option Addr) (m c : Nat) (ys : List Int) : List Piece := [⟨A, n, cap, zs⟩, ⟨B, m, c, ys⟩]
theorem pair_flat (A : Option Addr) (n cap : Nat) (zs : List Int) (B : Option Addr) (m c : Nat) (ys : List Int) : flat (pair A n cap zs B m c ys) = zs ++ ys := by simp [flat, pair]
theorem pair_tot (A : Option Addr) (n cap : Nat) (zs : List Int) (B : Option Addr) (m c : Nat) (ys : List Int) : tot (pair A n cap zs B m c ys) = n + m := by simp [tot, pair]
theorem pair_lie {w : World} {lo hi n cap lo2 hi2 m c : Nat} {A B : Option Addr} {zs ys : List Int} (h : Rd .i64 w lo hi A n cap zs) (g : Rd .i64 w lo2 hi2 B m c ys) (E : TypeId) :
    Pieces (w.alloc (.cells #[.slice A n cap, .slice B m c] E)) (some ⟨w.heap.size, 0, none⟩) 2 (pair A n cap zs B m c ys) := by
  refine ⟨rfl, fun j s hj => ?_⟩
  have hb : ∀ j v, (#[Value.slice A n cap, .slice B m c] : Array Value)[j]? = some v →
      (w.alloc (.cells #[.slice A n cap, .slice B m c] E)).cell? ⟨w.heap.size, 0 + j, none⟩ = some v := fun j v hv => by
    rw [Nat.zero_add]
    exact cell_at (heap_alloc_new w _) hv
  rcases j with _ | _ | j
  · injection hj with hj; subst hj
    exact ⟨⟨_, 0, rfl, by simp, hb 0 _ rfl⟩, (h.alloc _).wide⟩
  · injection hj with hj; subst hj
    exact ⟨⟨_, 0, rfl, by simp, hb 1 _ rfl⟩, (g.alloc _).wide⟩
  · simp [pair] at hj
end Go.Proofs.Ytcfgjlolabnolaa.cat
