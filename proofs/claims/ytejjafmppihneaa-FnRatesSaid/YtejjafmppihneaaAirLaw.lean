/- The law function of airtime (FnAirtime) returns true and leaves what was there. Condition: the argument is a slice of bytes that came in. -/
import Derived.Test.YtejjafmppihneaaAir3
import Derived.Test.YtejjafmppihneaaDraw2
namespace Go.Proofs.Ytejjafmppihneaa.airs
open Go.RowKit sl harn rng draw

def RatePost (p : Nat) (a : Option Addr) (len cap : Nat) (w : World) (e : Ending) (w' : World) : Prop := ∃ r : Int, e = .returned (.int .i64 r) ∧ -1 ≤ r ∧ r ≤ 4 ∧ Keep p w w' ∧ Cur w' p a len cap
def FsDraw (w : World) (e : Ending) (w' : World) : Prop := ∃ r n : Int, e = .returned (.tuple #[.int .i64 r, .int .i64 n]) ∧ (-1 ≤ r ∧ r ≤ 4) ∧ (-1 ≤ n ∧ n ≤ 1000000000001) ∧ Below w.heap.size w w'
theorem fs_on {r n : Int} (h : Vr r) (hn : 0 ≤ n ∧ n ≤ 1000000000000) : fs r n = 1 + (n + bps r - 1) / bps r := by unfold fs; rw [if_pos ⟨h, hn⟩]
theorem fs_off {r n : Int} (h : ¬ (Vr r ∧ 0 ≤ n ∧ n ≤ 1000000000000)) : fs r n = 0 := by unfold fs; rw [if_neg h]
theorem fs_rate {r n : Int} (h : Vr r) (h3 : r < 3) (hn : 0 ≤ n ∧ n ≤ 1000000000000) : fs (r + 1) n ≤ fs r n := by
  rw [fs_on h hn, fs_on (show Vr (r + 1) by unfold Vr at *; omega) hn]
  rcases vr_cases h with rfl | rfl | rfl | rfl <;> simp [bps] <;> omega
theorem fs_less {r n : Int} (h : Vr r) (hn : 0 ≤ n ∧ n ≤ 1000000000000) (h0 : 0 < n) : fs r (n - 1) ≤ fs r n := by
  rw [fs_on h hn, fs_on h (by omega)]
  rcases vr_cases h with rfl | rfl | rfl | rfl <;> simp [bps] <;> omega
theorem fs_holds {r n : Int} (h : Vr r) (hn : 0 ≤ n ∧ n ≤ 1000000000000) : n ≤ (fs r n - 1) * bps r ∧ (fs r n - 1) * bps r ≤ 30000000000000 ∧ (0 < n → (fs r n - 2) * bps r < n ∧ 0 ≤ (fs r n - 2) * bps r) := by
  rw [fs_on h hn]
  rcases vr_cases h with rfl | rfl | rfl | rfl <;> simp [bps] <;> omega
theorem fs_pos {r n : Int} (h : Vr r) (hn : 0 ≤ n ∧ n ≤ 1000000000000) : 1 ≤ fs r n ∧ fs r n ≤ 1000000000001 := by
  rw [fs_on h hn]
  rcases vr_cases h with rfl | rfl | rfl | rfl <;> simp [bps] <;> omega
theorem es_on {r n g : Int} {b : Bool} (hg : fs r n = g) (h : 1 ≤ g) : es r n b = g + (if b then 3 else 1) := by unfold es; rw [hg, if_neg (by omega)]

end Go.Proofs.Ytejjafmppihneaa.airs
