/- The draws of stage 5: a byte string and a scrambler state with bits. Condition: none. -/
import Derived.Test.YtnffklompocflabDraw6
namespace Go.Proofs.Ytnffklompocflab.draw
open Go.RowKit sl harn

theorem state5 (w : World) (p : Nat) (a : Option Addr) (len cap : Nat) (hc : Cur w p a len cap) :
    Calls Try.prog 55 #[.pointer (some ⟨p, 0, none⟩)] w (IntPost (-1) 128 p a len cap w) := by
  have C0 := Lib.hid hc
  clear hc
  go_enter Try.func55, Try.ntmps55
  go_wp2_with fail
  (with_reducible refine (once 8 (by omega) _ p a len cap C0.out).mono ?_)
  rintro e w2 ⟨b, rfl, hk, hc⟩
  have K2 := Lib.hid hk
  have C2 := Lib.hid hc
  clear hk hc C0
  cases b
  · go_wp2_with fail
    (with_reducible refine (below 127 (by omega) _ p a len cap C2.out).mono ?_)
    rintro e w3 ⟨x, rfl, hx0, hx1, hk, hc⟩
    have hx := hx1 (by omega)
    have K3 := Lib.hid (K2.out.trans hk)
    have C3 := Lib.hid hc
    clear hk hc hx1 C2 K2
    go_wp2_with fail
    go_ret
    exact ⟨_, rfl, by omega, by omega, K3.out, C3.out⟩
  · go_wp2_with (go_at_call 58; refine (pickIn (-1) 128 4 (by omega) (by omega) _ p a len cap C2.out _ rfl (by kernel_rfl)).mono ?_; rintro e w1 ⟨x, rfl, h1, h2, hk, hc⟩; have K3 := Lib.hid (K2.out.trans hk); have C3 := Lib.hid hc; clear hk hc)
    go_ret
    exact ⟨_, rfl, h1, h2, K3.out, C3.out⟩
theorem drawScr (w : World) (a : Option Addr) (len cap : Nat) (hc : Code w w.heap.size a len) :
    Calls Try.prog 36 #[.slice a len cap] w (fun e w' => ∃ (s : Int) (A : Option Addr) (n c : Nat) (zs : List Int), e = .returned (.tuple #[.int .i64 s, .slice A n c]) ∧ -1 ≤ s ∧ s ≤ 128 ∧ n ≤ 1000 ∧ Ow 3 .i64 w' w.heap.size w'.heap.size A n c zs ∧ Below w.heap.size w w') := by
  have C0 := Lib.hid hc
  clear hc
  go_enter Try.func36, Try.ntmps36
  go_wp2_with fail
  (with_reducible refine (new _ a len cap C0.out).mono ?_)
  rintro e w1 ⟨rfl, hk, hs, hc⟩
  have K1 := Lib.hid hk
  have C1 := Lib.hid hc
  have S1 := Lib.hid hs
  clear hk hc hs
  go_wp2_with fail
  (with_reducible refine (state5 _ w.heap.size a len cap C1.out).mono ?_)
  rintro e w3 ⟨s, rfl, hs0, hs1, hk, hc⟩
  have K3 := Lib.hid (K1.out.trans hk)
  have S3 := Lib.hid (Nat.lt_of_lt_of_le S1.out hk.size)
  have C3 := Lib.hid hc
  clear hk hc C1 K1 S1
  go_wp2_with fail
  (with_reducible refine (any4 _ w.heap.size a len cap C3.out).mono ?_)
  rintro e w4 ⟨A, n, c, zs, rfl, hn, ho, hi, hk, hc⟩
  have K4 := Lib.hid (keep_below K3.out hk)
  have O4 := Lib.hid (ho.down (lo2 := w.heap.size) (Nat.le_of_lt S3.out))
  clear hk hc ho hi
  go_wp2_with fail
  go_ret2
  exact ⟨_, _, _, _, zs, rfl, hs0, hs1, hn, O4.out, K4.out⟩
end Go.Proofs.Ytnffklompocflab.draw
