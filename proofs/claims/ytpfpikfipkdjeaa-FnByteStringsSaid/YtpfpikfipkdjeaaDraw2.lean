/- What the draws of numbers and strings return, in ranges. Condition: the bytes that are drawn from are a slice that came in. -/
import Derived.Test.YtpfpikfipkdjeaaDraw
namespace Go.Proofs.Ytpfpikfipkdjeaa.draw
open Go.RowKit

def okInt (lo hi : Int) : Value → Bool
  | .int .i64 z => decide (lo ≤ z ∧ z ≤ hi)
  | _ => false
theorem of_okInt {lo hi : Int} {v : Value} (h : okInt lo hi v = true) : ∃ z, v = .int .i64 z ∧ (lo ≤ z ∧ z ≤ hi) := by
  unfold okInt at h
  split at h
  · exact ⟨_, rfl, of_decide_eq_true h⟩
  · cases h
theorem row_new {P : Value → Prop} {ok : Value → Bool} (hok : ∀ v, ok v = true → P v) (w : World) (p : Nat) (hp : p < w.heap.size) (vs : Array Value) (t : TypeId) (n : Nat) (hn : vs.size = n) (ha : vs.toList.all ok = true) :
    Row P (w.alloc (.cells vs t)) p w.heap.size n := by
  have hb : (w.alloc (.cells vs t)).heap[w.heap.size]? = some (.cells vs t (0, 0)) := by show (w.heap.push _)[w.heap.size]? = _; simp
  refine ⟨by omega, by simp, fun i hi => ⟨vs[i]'(by omega), hok _ (List.all_eq_true.1 ha _ (by simp)), ?_⟩⟩
  have hi2 : i < vs.size := by omega
  simp only [World.cell?, hb]
  exact Array.getElem?_eq_getElem hi2
theorem Cur.lt {w : World} {p : Nat} {a : Option Addr} {len cap : Nat} (h : Cur w p a len cap) : p < w.heap.size := by
  obtain ⟨-, i, g, -, hb⟩ := h
  exact lt_of_block hb
theorem Cur.alloc {w : World} {p : Nat} {a : Option Addr} {len cap : Nat} (h : Cur w p a len cap) (o : Obj) : Cur (w.alloc o) p a len cap := by
  have hp := h.lt
  obtain ⟨hc, i, g, hi, hb⟩ := h
  exact ⟨hc.keep ((Keep.refl p w).alloc o), i, g, hi, by rw [Below.heap_alloc w o p hp]; exact hb⟩

/-- A number in a range. -/
def IntPost (lo hi : Int) (p : Nat) (a : Option Addr) (len cap : Nat) (w : World) (e : Ending) (w' : World) : Prop := ∃ z : Int, e = .returned (.int .i64 z) ∧ lo ≤ z ∧ z ≤ hi ∧ Keep p w w' ∧ Cur w' p a len cap

theorem pickIn (lo hi : Int) (n : Nat) (hn0 : 0 < n) (hn : (n : Int) ≤ 9223372036854775807) (w : World) (p : Nat) (a : Option Addr) (len cap : Nat) (hc : Cur w p a len cap) (vs : Array Value) (hs : vs.size = n) (ha : vs.toList.all (okInt lo hi) = true) :
    Calls Try.prog 55 #[.pointer (some ⟨p, 0, none⟩), .slice (some ⟨w.heap.size, 0, none⟩) n n] (w.alloc (.cells vs 3)) (IntPost lo hi p a len cap w) := by
  refine (pickInt (fun z => lo ≤ z ∧ z ≤ hi) n hn0 hn _ p w.heap.size a len cap n (row_new (fun v => of_okInt) w p hc.lt vs 3 n hs ha) (hc.alloc _)).mono ?_
  rintro e w1 ⟨v, rfl, ⟨z, rfl, h1, h2⟩, hk, hc1⟩
  exact ⟨z, rfl, h1, h2, ((Keep.refl p w).alloc _).trans hk, hc1⟩

theorem odd (w : World) (p : Nat) (a : Option Addr) (len cap : Nat) (hc : Cur w p a len cap) :
    Calls Try.prog 62 #[.pointer (some ⟨p, 0, none⟩)] w (IntPost (-9223372036854775808) 9223372036854775807 p a len cap w) := by
  have C0 := Lib.hid hc
  clear hc
  go_enter Try.func62, Try.ntmps62
  go_wp2_with (go_at_call 55; refine (pickIn (-9223372036854775808) 9223372036854775807 14 (by omega) (by omega) _ p a len cap C0.out _ rfl (by kernel_rfl)).mono ?_; rintro e w1 ⟨z, rfl, h1, h2, hk, hc⟩; have K := Lib.hid hk; have C := Lib.hid hc; have B := Lib.hid (And.intro h1 h2); clear hk hc h1 h2)
  go_ret
  exact ⟨_, rfl, B.out.1, B.out.2, K.out, C.out⟩
theorem raw (w : World) (p : Nat) (a : Option Addr) (len cap : Nat) (hc : Cur w p a len cap) :
    Calls Try.prog 60 #[.pointer (some ⟨p, 0, none⟩)] w (IntPost (-9223372036854775808) 9223372036854775807 p a len cap w) := by
  have C0 := Lib.hid hc
  clear hc
  go_enter Try.func60, Try.ntmps60
  go_wp2_with (go_at_call 53; refine (once 2 (by omega) _ p a len cap C0.out).mono ?_; rintro e w1 ⟨b, rfl, hk, hc⟩; have K1 := Lib.hid hk; have C1 := Lib.hid hc; clear hk hc C0; cases b)
  · go_wp2_with (go_at_call 55; refine (pickIn (-9223372036854775808) 9223372036854775807 3 (by omega) (by omega) _ p a len cap C1.out _ rfl (by kernel_rfl)).mono ?_; rintro e w1 ⟨z, rfl, h1, h2, hk, hc⟩; have K := Lib.hid hk; have C := Lib.hid hc; have B := Lib.hid (And.intro h1 h2); clear hk hc h1 h2)
    go_ret
    exact ⟨_, rfl, B.out.1, B.out.2, K1.out.trans K.out, C.out⟩
  · go_wp2_with (go_at_call 62; refine (odd _ p a len cap C1.out).mono ?_; rintro e w1 ⟨z, rfl, h1, h2, hk, hc⟩; have K := Lib.hid hk; have C := Lib.hid hc; have B := Lib.hid (And.intro h1 h2); clear hk hc h1 h2)
    go_ret
    exact ⟨_, rfl, B.out.1, B.out.2, K1.out.trans K.out, C.out⟩
theorem num (w : World) (p : Nat) (a : Option Addr) (len cap : Nat) (hc : Cur w p a len cap) :
    Calls Try.prog 54 #[.pointer (some ⟨p, 0, none⟩)] w (IntPost 0 1000000000000 p a len cap w) := by
  have C0 := Lib.hid hc
  clear hc
  go_enter Try.func54, Try.ntmps54
  go_wp2_with (go_at_call 46; refine (below 4 (by omega) _ p a len cap C0.out).mono ?_; rintro e w1 ⟨x, rfl, hx0, hx1, hk, hc⟩; have K1 := Lib.hid hk; have C1 := Lib.hid hc; clear hk hc C0; (have hx : x = 0 ∨ x = 1 ∨ x = 2 ∨ x = 3 := by have := hx1 (by omega); omega); clear hx0 hx1; rcases hx with rfl | rfl | rfl | rfl)
  · go_wp2_with (go_at_call 46; refine (below 2000 (by omega) _ p a len cap C1.out).mono ?_; rintro e w2 ⟨x, rfl, hx0, hx1, hk, hc⟩; have K := Lib.hid hk; have C := Lib.hid hc; (have B := Lib.hid (And.intro hx0 (hx1 (by omega)))); clear hk hc hx0 hx1 C1)
    go_ret
    exact ⟨_, rfl, B.out.1, by have := B.out.2; omega, K1.out.trans K.out, C.out⟩
  · go_wp2_with (go_at_call 55; refine (pickIn 0 1000000000000 7 (by omega) (by omega) _ p a len cap C1.out _ rfl (by kernel_rfl)).mono ?_; rintro e w1 ⟨z, rfl, h1, h2, hk, hc⟩; have K := Lib.hid hk; have C := Lib.hid hc; have B := Lib.hid (And.intro h1 h2); clear hk hc h1 h2)
    go_ret
    exact ⟨_, rfl, B.out.1, B.out.2, K1.out.trans K.out, C.out⟩
  · go_wp2_with (go_at_call 46; refine (below 1000000 (by omega) _ p a len cap C1.out).mono ?_; rintro e w2 ⟨x, rfl, hx0, hx1, hk, hc⟩; have K2 := Lib.hid (K1.out.trans hk); have C2 := Lib.hid hc; (have B := hx1 (by omega)); clear hk hc hx1 C1 K1)
    go_wp2_with (go_at_call 46; refine (below 1000000 (by omega) _ p a len cap C2.out).mono ?_; rintro e w3 ⟨y, rfl, hy0, hy1, hk, hc⟩; have K3 := Lib.hid (K2.out.trans hk); have C3 := Lib.hid hc; (have B2 := hy1 (by omega)); (have hp0 : 0 ≤ x * y := Int.mul_nonneg hx0 hy0); (have hp1 : x * y ≤ 1000000000000 := by have h1 : x * y ≤ 1000000 * y := Int.mul_le_mul_of_nonneg_right (by omega) hy0; omega); clear hk hc hy1 C2 K2)
    go_ret
    exact ⟨_, rfl, hp0, hp1, K3.out, C3.out⟩
  · go_wp2_with (go_at_call 46; refine (below 20 (by omega) _ p a len cap C1.out).mono ?_; rintro e w2 ⟨x, rfl, hx0, hx1, hk, hc⟩; have K := Lib.hid hk; have C := Lib.hid hc; (have B := Lib.hid (And.intro hx0 (hx1 (by omega)))); clear hk hc hx0 hx1 C1)
    go_ret
    exact ⟨_, rfl, B.out.1, by have := B.out.2; omega, K1.out.trans K.out, C.out⟩
theorem one (w : World) (p : Nat) (a : Option Addr) (len cap : Nat) (hc : Cur w p a len cap) :
    Calls Try.prog 47 #[.pointer (some ⟨p, 0, none⟩)] w (IntPost (-9223372036854775808) 9223372036854775807 p a len cap w) := by
  have C0 := Lib.hid hc
  clear hc
  go_enter Try.func47, Try.ntmps47
  go_wp2_with (go_at_call 53; refine (once 6 (by omega) _ p a len cap C0.out).mono ?_; rintro e w1 ⟨b, rfl, hk, hc⟩; have K1 := Lib.hid hk; have C1 := Lib.hid hc; clear hk hc C0; cases b)
  · go_wp2_with (go_at_call 54; refine (num _ p a len cap C1.out).mono ?_; rintro e w1 ⟨z, rfl, h1, h2, hk, hc⟩; have K := Lib.hid hk; have C := Lib.hid hc; have B := Lib.hid (And.intro h1 h2); clear hk hc h1 h2)
    go_ret
    exact ⟨_, rfl, by have := B.out.1; omega, by have := B.out.2; omega, K1.out.trans K.out, C.out⟩
  · go_wp2_with (go_at_call 60; refine (raw _ p a len cap C1.out).mono ?_; rintro e w1 ⟨z, rfl, h1, h2, hk, hc⟩; have K := Lib.hid hk; have C := Lib.hid hc; have B := Lib.hid (And.intro h1 h2); clear hk hc h1 h2)
    go_ret
    exact ⟨_, rfl, B.out.1, B.out.2, K1.out.trans K.out, C.out⟩

theorem keep_below {w w1 w2 : World} (h : Keep w.heap.size w w1) (h2 : Keep w.heap.size w1 w2) : Below w.heap.size w w2 :=
  have k := h.trans h2
  ⟨k.os, k.tape, k.output, k.size, fun j hj => k.block j hj (by omega)⟩
theorem code_later {w w' : World} {a : Option Addr} {len : Nat} (h : Code w w.heap.size a len) (hb : Below w.heap.size w w') : Code w' w'.heap.size a len := by
  refine ⟨h.1, fun hl => ?_⟩
  obtain ⟨b, off, e, -, hlt, hc⟩ := h.2 hl
  have := hb.size
  refine ⟨b, off, e, by omega, by omega, fun i hi => ?_⟩
  obtain ⟨z, h1, h2, h3⟩ := hc i hi
  exact ⟨z, h1, h2, by rw [hb.cell (p := ⟨b, off + i, none⟩) hlt]; exact h3⟩
end Go.Proofs.Ytpfpikfipkdjeaa.draw
