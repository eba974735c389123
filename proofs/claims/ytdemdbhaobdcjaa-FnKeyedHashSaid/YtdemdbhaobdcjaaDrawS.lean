/- The draws of strings: picks out of a list of strings. Condition: the bytes that are drawn from are a slice that came in. -/
import Derived.Test.YtdemdbhaobdcjaaDraw2
namespace Go.Proofs.Ytdemdbhaobdcjaa.draw
open Go.RowKit

theorem pickStr (P : ByteArray → Prop) (n : Nat) (hn0 : 0 < n) (hn : (n : Int) ≤ 9223372036854775807) (w : World) (p q : Nat) (a : Option Addr) (len cap cap2 : Nat) (hr : Row (fun v => ∃ z, v = .string z ∧ P z) w p q n) (hc : Cur w p a len cap) :
    Calls Try.prog 53 #[.pointer (some ⟨p, 0, none⟩), .slice (some ⟨q, 0, none⟩) n cap2] w (PickPost (fun v => ∃ z, v = .string z ∧ P z) p a len cap w) := by
  have HC := fun W => below n hn W p a len cap
  have C0 := Lib.hid hc
  have R0 := Lib.hid hr
  clear hc hr
  go_enter Try.func53, Try.ntmps53
  go_wp2_with (go_at_call 47; refine (HC _ C0.out).mono ?_; rintro e w1 ⟨x, rfl, hx0, hx1, hk, hc⟩; have R1 := Lib.hid (R0.out.keep hk); have K1 := Lib.hid hk; have C1 := Lib.hid hc; clear hk hc R0 C0 HC; (obtain ⟨m, rfl⟩ : ∃ m : Nat, x = m := ⟨x.toNat, by omega⟩); (have hm : m < n := by have := hx1 (by omega); omega); (obtain ⟨v, ⟨z, rfl, hP⟩, hv⟩ := R1.out.2.2 m hm); have HP := Lib.hid hP; clear hP hx1)
  go_ret
  exact ⟨_, rfl, ⟨z, rfl, HP.out⟩, K1.out, C1.out⟩

def okStr (m : Nat) : Value → Bool
  | .string s => decide (s.size ≤ m)
  | _ => false
theorem of_okStr {m : Nat} {v : Value} (h : okStr m v = true) : ∃ z, v = .string z ∧ z.size ≤ m := by
  unfold okStr at h
  split at h
  · exact ⟨_, rfl, of_decide_eq_true h⟩
  · cases h
def StrPost (m : Nat) (p : Nat) (a : Option Addr) (len cap : Nat) (w : World) (e : Ending) (w' : World) : Prop := ∃ z : ByteArray, e = .returned (.string z) ∧ z.size ≤ m ∧ Keep p w w' ∧ Cur w' p a len cap
theorem pickStrIn (m : Nat) (n : Nat) (hn0 : 0 < n) (hn : (n : Int) ≤ 9223372036854775807) (w : World) (p : Nat) (a : Option Addr) (len cap : Nat) (hc : Cur w p a len cap) (vs : Array Value) (hs : vs.size = n) (ha : vs.toList.all (okStr m) = true) :
    Calls Try.prog 53 #[.pointer (some ⟨p, 0, none⟩), .slice (some ⟨w.heap.size, 0, none⟩) n n] (w.alloc (.cells vs 9)) (StrPost m p a len cap w) := by
  refine (pickStr (fun z => z.size ≤ m) n hn0 hn _ p w.heap.size a len cap n (row_new (fun v => of_okStr) w p hc.lt vs 9 n hs ha) (hc.alloc _)).mono ?_
  rintro e w1 ⟨v, rfl, ⟨z, rfl, h1⟩, hk, hc1⟩
  exact ⟨z, rfl, h1, ((Keep.refl p w).alloc _).trans hk, hc1⟩
end Go.Proofs.Ytdemdbhaobdcjaa.draw
