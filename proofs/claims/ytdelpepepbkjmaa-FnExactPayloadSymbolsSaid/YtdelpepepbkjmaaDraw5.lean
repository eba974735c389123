/- The draws of stage 3: a key, lists of words, bytes, a label. Condition: the bytes that are drawn from are a slice that came in. -/
import Derived.Test.YtdelpepepbkjmaaDrawB
import Derived.Test.YtdelpepepbkjmaaDrawS
namespace Go.Proofs.Ytdelpepepbkjmaa.draw
open Go.RowKit sl harn

/-- Numbers in a range. -/
def In (lo hi : Int) (zs : List Int) : Prop := ∀ z ∈ zs, lo ≤ z ∧ z ≤ hi
theorem In.nil (lo hi : Int) : In lo hi [] := fun _ h => by cases h
theorem In.push {lo hi : Int} {zs : List Int} (h : In lo hi zs) {x : Int} (h1 : lo ≤ x) (h2 : x ≤ hi) : In lo hi (zs ++ [x]) := fun z hz => by
  rcases List.mem_append.1 hz with hz | hz
  · exact h z hz
  · have : z = x := by simpa using hz
    subst this; exact ⟨h1, h2⟩
/-- Some numbers in a range, at most N. -/
def SomeInts (lo hi : Int) (N : Nat) (p : Nat) (a : Option Addr) (len cap : Nat) (w : World) (e : Ending) (w' : World) : Prop :=
  ∃ A n c zs, e = .returned (.slice A n c) ∧ n ≤ N ∧ Ow 3 .i64 w' w.heap.size w'.heap.size A n c zs ∧ In lo hi zs ∧ Keep p w w' ∧ Cur w' p a len cap
def DrawingI (lo hi : Int) (w wr : World) (p : Nat) (a : Option Addr) (len cap : Nat) (k : Nat) (v : Value) : Prop :=
  ∃ A c zs, v = .slice A k c ∧ Ow 3 .i64 wr w.heap.size wr.heap.size A k c zs ∧ In lo hi zs ∧ Keep p w wr ∧ Cur wr p a len cap
/-- A key and some bytes. -/
def DrawnKeyBytes (w : World) (e : Ending) (w' : World) : Prop :=
  ∃ k A n c zs, e = .returned (.tuple #[.int .i64 k, .slice A n c]) ∧ (-1 ≤ k ∧ k ≤ 2147483648) ∧ n ≤ 8 ∧ Ow 5 .u8 w' w.heap.size w'.heap.size A n c zs ∧ Below w.heap.size w w'
/-- A key and some numbers. -/
def DrawnKeyInts (w : World) (e : Ending) (w' : World) : Prop :=
  ∃ k A n c zs, e = .returned (.tuple #[.int .i64 k, .slice A n c]) ∧ (-1 ≤ k ∧ k ≤ 2147483648) ∧ n ≤ 4 ∧ Ow 3 .i64 w' w.heap.size w'.heap.size A n c zs ∧ In (-1) 2147483648 zs ∧ Below w.heap.size w w'
/-- A key and a string. -/
def DrawnKeyStr (w : World) (e : Ending) (w' : World) : Prop :=
  ∃ (k : Int) (s : ByteArray), e = .returned (.tuple #[.int .i64 k, .string s]) ∧ (-1 ≤ k ∧ k ≤ 2147483648) ∧ s.size ≤ 4 ∧ Below w.heap.size w w'
end Go.Proofs.Ytdelpepepbkjmaa.draw
