/- Hidden stations, neighbours, valid placements: program and specification. Condition: of neighbours, at most 2^26 positions. -/
import Derived.Test.YtejjafmppihneaaPl2
import Derived.Test.YtejjafmppihneaaBits1
namespace Go.Proofs.Ytejjafmppihneaa.bx
open Go.RowKit sl harn rng plm bm
set_option linter.unusedVariables false

/-- Neighbours being gathered. -/
def Nb (z : List Int) (l a : Int) (w wr : World) (k : Nat) (v : Value) : Prop :=
  ∃ A q cp, v = .slice A q cp ∧ Ow 3 .i64 wr w.heap.size wr.heap.size A q cp (nbs z l a k) ∧ Below w.heap.size w wr
/-- A valid placement. -/
def vpl (z : List Int) (r s : Int) : Bool := decide (1 ≤ (z.length : Int) ∧ (z.length : Int) ≤ 16) && (inr z 0 1000 && (decide (1 ≤ r ∧ r ≤ s) && decide (s ≤ 1000)))
end Go.Proofs.Ytejjafmppihneaa.bx
