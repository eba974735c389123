/- The harness over messages and queues: sizes, copies, comparison, marks. Condition: sizes up to 2^26. -/
import Derived.Test.YtejjafmppihneaaQc2
import Derived.Laws.MakeOwn
namespace Go.Proofs.Ytejjafmppihneaa.mq
open Go.RowKit sl harn bx mrw
set_option linter.unusedVariables false
set_option linter.unusedSimpArgs false

theorem oneM (a b c : Int) (A : Option Addr) (n k : Nat) : (#[.int .i64 a, .int .i64 b, .int .i64 c, .slice A n k] : Array Value).all (·.oneCell') = true :=
  all_oneCell_toArray (cs := [.int .i64 a, .int .i64 b, .int .i64 c, .slice A n k]) (by intro v hv; simp only [List.mem_cons, List.not_mem_nil, or_false] at hv; rcases hv with rfl | rfl | rfl | rfl <;> rfl)
theorem oneQ (A : Option Addr) (n k : Nat) (a : Int) : (#[.slice A n k, .int .i64 a] : Array Value).all (·.oneCell') = true :=
  all_oneCell_toArray (cs := [.slice A n k, .int .i64 a]) (by intro v hv; simp only [List.mem_cons, List.not_mem_nil, or_false] at hv; rcases hv with rfl | rfl <;> rfl)
theorem run_makeS {P : Program} (t e : TypeId) (i : TypeInfo) (z : Value) (s : Nat) (ht : P.underlying t = some (.slice e)) (hi : P.info? e = some i) (hz : i.zero = some z) (hs : i.size = s)
    (n : Nat) (hb8 : i.bytes ≤ 128) (hn : n ≤ 67108864) (w : World) :
    (Instr.makeSlice t (.int .i64 (n : Int)) (.int .i64 (n : Int))).run P w = .ok (.slice (some ⟨w.heap.size, 0, none⟩) n n) (w.alloc (.cells (madeCells z.cells (n * s)) e)) := by
  have hb : (i.bytes : Int) * (n : Int) ≤ 281474976710656 := by
    have h : ((i.bytes * n : Nat) : Int) ≤ 281474976710656 := by
      have h1 := Nat.mul_le_mul hb8 hn
      omega
    rwa [Int.natCast_mul] at h
  have hr := run_make (P := P) w t e i z ht hi hz .i64 .i64 n n (by omega) (by omega) hb (by omega)
  simp only [Int.toNat_natCast] at hr
  rw [hs] at hr
  exact hr
/-- What remains of a bound behind t: -1 if it does not suffice. -/
def SzPost (left : Int) (t : Nat) (w : World) (e : Ending) (w' : World) : Prop := ∃ r : Int, e = .returned (.int .i64 r) ∧ ((r = -1 ∧ left < t) ∨ (r = left - t ∧ (t : Int) ≤ left)) ∧ Below w.heap.size w w'
end Go.Proofs.Ytejjafmppihneaa.mq
