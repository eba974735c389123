/- The draws of strings: picks out of a list of strings. Condition: the bytes that are drawn from are a slice that came in. -/
import Derived.Test.YtdelpepepbkjmaaDraw2
namespace Go.Proofs.Ytdelpepepbkjmaa.draw
open Go.RowKit

def okStr (m : Nat) : Value → Bool
  | .string s => decide (s.size ≤ m)
  | _ => false
theorem of_okStr {m : Nat} {v : Value} (h : okStr m v = true) : ∃ z, v = .string z ∧ z.size ≤ m := by
  unfold okStr at h
  split at h
  · exact ⟨_, rfl, of_decide_eq_true h⟩
  · cases h
def StrPost (m : Nat) (p : Nat) (a : Option Addr) (len cap : Nat) (w : World) (e : Ending) (w' : World) : Prop := ∃ z : ByteArray, e = .returned (.string z) ∧ z.size ≤ m ∧ Keep p w w' ∧ Cur w' p a len cap
end Go.Proofs.Ytdelpepepbkjmaa.draw
