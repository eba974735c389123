/- The cursor of a draw: what its functions return lies in the stated ranges, and of what was there only the cursor's own block is written. Condition: the cursor reads a slice of bytes that lies outside its own block. -/
import Derived.Test.YtalfihfielgmpaaKit
import Derived.ProofKit
import Derived.OpenShut
import Derived.LoopTactic
import Derived.BigQuiet
import Derived.Deep.QuietTactic
import Derived.Outline
import Derived.OneCell
import Derived.Lib.Hide
namespace Go.Proofs.Ytalfihfielgmpaa.draw
open Go.RowKit

theorem low_bits (j : Nat) (hj : j ≤ 62) (n : Int) : bits .and .i64 n ((2 ^ j - 1 : Nat) : Int) = n % ((2 ^ j : Nat) : Int) := by
  have hp : (2 : Nat) ^ j ≤ 2 ^ 62 := Nat.pow_le_pow_right (by omega) hj
  have hp2 : (2 : Nat) ^ 62 = 4611686018427387904 := by decide
  have hpos : 0 < (2 : Nat) ^ j := Nat.two_pow_pos j
  have hm : (BitVec.ofInt 64 ((2 ^ j - 1 : Nat) : Int)).toNat = 2 ^ j - 1 := by
    rw [BitVec.toNat_ofInt]
    have : (((2 ^ j - 1 : Nat) : Int) % ((2 ^ 64 : Nat) : Int)) = ((2 ^ j - 1 : Nat) : Int) := Int.emod_eq_of_lt (by omega) (by omega)
    rw [this]; simp
  have key : (BitVec.ofInt 64 n &&& BitVec.ofInt 64 ((2 ^ j - 1 : Nat) : Int)).toNat = (n % ((2 ^ 64 : Nat) : Int)).toNat % 2 ^ j := by
    rw [BitVec.toNat_and, hm, BitVec.toNat_ofInt, Nat.and_two_pow_sub_one_eq_mod]
  show IntKind.i64.wrap ((BitVec.ofInt 64 n &&& BitVec.ofInt 64 ((2 ^ j - 1 : Nat) : Int)).toNat : Nat) = _
  rw [key]
  have hd : ((2 : Nat) ^ j) ∣ 2 ^ 64 := Nat.pow_dvd_pow 2 (by omega)
  have e : (((n % ((2 ^ 64 : Nat) : Int)).toNat % 2 ^ j : Nat) : Int) = n % ((2 ^ j : Nat) : Int) := by
    rw [Int.natCast_emod, Int.toNat_of_nonneg (Int.emod_nonneg _ (by decide))]
    exact Int.emod_emod_of_dvd n (Int.natCast_dvd_natCast.2 hd)
  rw [e, IntKind.wrap_i64]
  have h1 : 0 ≤ n % ((2 ^ j : Nat) : Int) := Int.emod_nonneg _ (by omega)
  have h2 : n % ((2 ^ j : Nat) : Int) < ((2 ^ j : Nat) : Int) := Int.emod_lt_of_pos _ (by omega)
  omega
theorem low8 (n : Int) : bits .and .i64 n 255 = n % 256 := low_bits 8 (by omega) n
theorem low30 (n : Int) : bits .and .i64 n 1073741823 = n % 1073741824 := low_bits 30 (by omega) n

/-- Only block p of what was there may have been written. -/
structure Keep (p : Nat) (w w' : World) : Prop where
  os : w'.os = w.os
  tape : w'.tape = w.tape
  output : w'.output = w.output
  size : w.heap.size ≤ w'.heap.size
  block : ∀ k, k < w.heap.size → k ≠ p → w'.heap[k]? = w.heap[k]?
theorem Keep.refl (p : Nat) (w : World) : Keep p w w := ⟨rfl, rfl, rfl, Nat.le_refl _, fun _ _ _ => rfl⟩
theorem Keep.trans {p : Nat} {a b c : World} (h : Keep p a b) (k : Keep p b c) : Keep p a c :=
  ⟨k.os.trans h.os, k.tape.trans h.tape, k.output.trans h.output, Nat.le_trans h.size k.size, fun j hj hn => (k.block j (Nat.lt_of_lt_of_le hj h.size) hn).trans (h.block j hj hn)⟩
theorem Keep.below {p B : Nat} {w w' : World} (h : Keep p w w') (hB : B ≤ p) (hs : p < w.heap.size) : Below B w w' :=
  ⟨h.os, h.tape, h.output, h.size, fun k hk => h.block k (by omega) (by omega)⟩
theorem Keep.drew {p : Nat} {a w : World} (h : Keep p a w) : Keep p a w.drew := ⟨h.os, h.tape, h.output, h.size, h.block⟩
theorem Keep.drewN {p : Nat} {a w : World} (h : Keep p a w) (n : Nat) : Keep p a (w.drewN n) := ⟨h.os, h.tape, h.output, h.size, h.block⟩
theorem Keep.setCell {p o : Nat} {a w : World} (h : Keep p a w) (v : Value) : Keep p a (w.setCell ⟨p, o, none⟩ v) :=
  ⟨h.os, h.tape, h.output, by simpa using h.size, fun k hk hn => by rw [Below.heap_setCell w ⟨p, o, none⟩ v k hn]; exact h.block k hk hn⟩
theorem Keep.alloc {p : Nat} {a w : World} (h : Keep p a w) (o : Obj) : Keep p a (w.alloc o) :=
  ⟨h.os, h.tape, h.output, by simp; have := h.size; omega, fun k hk hn => by rw [Below.heap_alloc w o k (Nat.lt_of_lt_of_le hk h.size)]; exact h.block k hk hn⟩
theorem Keep.cell {p : Nat} {w w' : World} (h : Keep p w w') {q : Addr} (hq : q.block < w.heap.size) (hn : q.block ≠ p) : w'.cell? q = w.cell? q := World.cell?_of_block (w := w) (h.block q.block hq hn)

/-- A block of three cells. -/
theorem cell3_0 {w : World} {b : Nat} {x y z : Value} {t : TypeId} (h : w.heap[b]? = some (.cells #[x, y, z] t (0, 0))) : w.cell? ⟨b, 0, none⟩ = some x := by simp [World.cell?, h]
theorem cell3_1 {w : World} {b : Nat} {x y z : Value} {t : TypeId} (h : w.heap[b]? = some (.cells #[x, y, z] t (0, 0))) : w.cell? ⟨b, 1, none⟩ = some y := by simp [World.cell?, h]
theorem cell3_2 {w : World} {b : Nat} {x y z : Value} {t : TypeId} (h : w.heap[b]? = some (.cells #[x, y, z] t (0, 0))) : w.cell? ⟨b, 2, none⟩ = some z := by simp [World.cell?, h]
theorem free3 {w : World} {b : Nat} {x y z : Value} {t : TypeId} (h : w.heap[b]? = some (.cells #[x, y, z] t (0, 0))) (k : Nat) : w.frozen? ⟨b, k, none⟩ = false := by simp [World.frozen?, h]
theorem set3_1 {w : World} {b : Nat} {x y z u : Value} {t : TypeId} (h : w.heap[b]? = some (.cells #[x, y, z] t (0, 0))) : (w.setCell ⟨b, 1, none⟩ u).heap[b]? = some (.cells #[x, u, z] t (0, 0)) := by
  have hlt := lt_of_block h
  have h' : w.heap[b] = .cells #[x, y, z] t (0, 0) := by simpa [Array.getElem?_eq_getElem hlt] using h
  show (w.heap.modify b _)[b]? = _
  rw [Array.getElem?_eq_getElem (by simpa using hlt), Array.getElem_modify_self, h']
  rfl
theorem set3_2 {w : World} {b : Nat} {x y z u : Value} {t : TypeId} (h : w.heap[b]? = some (.cells #[x, y, z] t (0, 0))) : (w.setCell ⟨b, 2, none⟩ u).heap[b]? = some (.cells #[x, y, u] t (0, 0)) := by
  have hlt := lt_of_block h
  have h' : w.heap[b] = .cells #[x, y, z] t (0, 0) := by simpa [Array.getElem?_eq_getElem hlt] using h
  show (w.heap.modify b _)[b]? = _
  rw [Array.getElem?_eq_getElem (by simpa using hlt), Array.getElem_modify_self, h']
  rfl

/-- The bytes that a draw reads. -/
def Code (w : World) (p : Nat) (a : Option Addr) (len : Nat) : Prop :=
  len ≤ 9223372036854775807 ∧ (0 < len → ∃ b off, a = some ⟨b, off, none⟩ ∧ b ≠ p ∧ b < w.heap.size ∧ ∀ i, i < len → ∃ z : Int, 0 ≤ z ∧ z ≤ 255 ∧ w.cell? ⟨b, off + i, none⟩ = some (.int .u8 z))
theorem Code.keep {w w' : World} {p : Nat} {a : Option Addr} {len : Nat} (h : Code w p a len) (k : Keep p w w') : Code w' p a len := by
  refine ⟨h.1, fun hl => ?_⟩
  obtain ⟨b, off, e, hn, hb, hc⟩ := h.2 hl
  refine ⟨b, off, e, hn, Nat.lt_of_lt_of_le hb k.size, fun i hi => ?_⟩
  obtain ⟨z, h1, h2, h3⟩ := hc i hi
  exact ⟨z, h1, h2, by rw [k.cell hb hn]; exact h3⟩
/-- The cursor at block p. -/
def Cur (w : World) (p : Nat) (a : Option Addr) (len cap : Nat) : Prop :=
  Code w p a len ∧ ∃ (i : Nat) (h : Int), i ≤ len ∧ w.heap[p]? = some (.cells #[.slice a len cap, .int .i64 i, .int .i64 h] 64 (0, 0))

def BytePost (p : Nat) (a : Option Addr) (len cap : Nat) (w : World) (e : Ending) (w' : World) : Prop := ∃ x : Int, e = .returned (.int .i64 x) ∧ 0 ≤ x ∧ x ≤ 255 ∧ Keep p w w' ∧ Cur w' p a len cap

theorem byte_more (w : World) (p : Nat) (a : Option Addr) (len cap : Nat) (hcode : Code w p a len) (i : Nat) (h : Int) (hlt : i < len) (hb : w.heap[p]? = some (.cells #[.slice a len cap, .int .i64 i, .int .i64 h] 64 (0, 0))) :
    Calls Try.prog 63 #[.pointer (some ⟨p, 0, none⟩)] w (BytePost p a len cap w) := by
  have c0 := cell3_0 hb
  have c1 := cell3_1 hb
  have c2 := cell3_2 hb
  have z1 := free3 hb 1
  have z2 := free3 hb 2
  have HB := Lib.hid hb
  have HC := Lib.hid hcode
  clear hb
  obtain ⟨b, off, rfl, hbp, -, hcells⟩ := hcode.2 (by omega)
  obtain ⟨z, hz0, hz1, hz⟩ := hcells i hlt
  clear hcells
  have hlt2 : (i : Int) < len := by omega
  have hlen : (len : Int) ≤ 9223372036854775807 := by have := hcode.1; omega
  have HI := Lib.hid hlt
  clear hcode hlt
  go_enter Try.func63, Try.ntmps63
  go_wp2
  generalize wrap64 (wrap64 (h * 6364136223846793005) + 1442695040888963407) = g
  go_quiet (fail)
  obtain ⟨x, hx⟩ : ∃ x, bits BinOp.and IntKind.i64 (bits BinOp.xor IntKind.i64 (g / 8589934592) (g / 140737488355328)) 255 = x := ⟨_, rfl⟩
  have hx0 : 0 ≤ x := by rw [← hx, low8]; omega
  have hx1 : x ≤ 255 := by rw [← hx, low8]; omega
  rw [hx]
  clear hx
  go_wp2
  go_quiet (fail)
  go_wp2
  go_quiet (fail)
  obtain ⟨y, hy⟩ : ∃ y, bits BinOp.and IntKind.i64 (x + z) 255 = y := ⟨_, rfl⟩
  have hy0 : 0 ≤ y := by rw [← hy, low8]; omega
  have hy1 : y ≤ 255 := by rw [← hy, low8]; omega
  rw [hy]
  clear hy
  go_wp2
  go_ret
  have K1 := ((((Keep.refl p w).setCell (o := 2) (.int .i64 g)).drewN 1).setCell (o := 1) (.int .i64 (i + 1)))
  refine ⟨y, rfl, hy0, hy1, ⟨K1.os, K1.tape, K1.output, K1.size, K1.block⟩, HC.out.keep ⟨K1.os, K1.tape, K1.output, K1.size, K1.block⟩, i + 1, g, HI.out, ?_⟩
  exact set3_1 (w := World.drewN _ _) (set3_2 HB.out)

theorem byte_less (w : World) (p : Nat) (a : Option Addr) (len cap : Nat) (hcode : Code w p a len) (i : Nat) (h : Int) (hi : i ≤ len) (hlt : ¬ i < len) (hb : w.heap[p]? = some (.cells #[.slice a len cap, .int .i64 i, .int .i64 h] 64 (0, 0))) :
    Calls Try.prog 63 #[.pointer (some ⟨p, 0, none⟩)] w (BytePost p a len cap w) := by
  have c0 := cell3_0 hb
  have c1 := cell3_1 hb
  have c2 := cell3_2 hb
  have z1 := free3 hb 1
  have z2 := free3 hb 2
  have HB := Lib.hid hb
  have HC := Lib.hid hcode
  clear hb
  clear hcode
  go_enter Try.func63, Try.ntmps63
  go_wp2
  generalize wrap64 (wrap64 (h * 6364136223846793005) + 1442695040888963407) = g
  go_quiet (fail)
  obtain ⟨x, hx⟩ : ∃ x, bits BinOp.and IntKind.i64 (bits BinOp.xor IntKind.i64 (g / 8589934592) (g / 140737488355328)) 255 = x := ⟨_, rfl⟩
  have hx0 : 0 ≤ x := by rw [← hx, low8]; omega
  have hx1 : x ≤ 255 := by rw [← hx, low8]; omega
  rw [hx]
  clear hx
  have hge : ¬ (i : Int) < len := by omega
  have HI := Lib.hid hi
  clear hi hlt
  go_wp2
  go_quiet (fail)
  go_wp2
  go_ret
  exact ⟨x, rfl, hx0, hx1, ((((Keep.refl p w).setCell _).drewN _).drewN _), HC.out.keep (((Keep.refl p w).setCell _).drewN _ |>.drewN _), i, g, HI.out, set3_2 HB.out⟩

theorem byte (w : World) (p : Nat) (a : Option Addr) (len cap : Nat) (hc : Cur w p a len cap) :
    Calls Try.prog 63 #[.pointer (some ⟨p, 0, none⟩)] w (BytePost p a len cap w) := by
  obtain ⟨hcode, i, h, hi, hb⟩ := hc
  by_cases hlt : i < len
  · exact byte_more w p a len cap hcode i h hlt hb
  · exact byte_less w p a len cap hcode i h hi hlt hb

def BelowPost (n : Int) (p : Nat) (a : Option Addr) (len cap : Nat) (w : World) (e : Ending) (w' : World) : Prop := ∃ x : Int, e = .returned (.int .i64 x) ∧ 0 ≤ x ∧ (0 < n → x < n) ∧ Keep p w w' ∧ Cur w' p a len cap

theorem below (n : Int) (hn : n ≤ 9223372036854775807) (w : World) (p : Nat) (a : Option Addr) (len cap : Nat) (hc : Cur w p a len cap) :
    Calls Try.prog 45 #[.pointer (some ⟨p, 0, none⟩), .int .i64 n] w (BelowPost n p a len cap w) := by
  have C0 := Lib.hid hc
  clear hc
  by_cases h1 : n ≤ 0
  · go_enter Try.func45, Try.ntmps45
    go_wp2
    go_ret
    exact ⟨0, rfl, by omega, by omega, Keep.refl _ _, C0.out⟩
  · have h0 : 1 ≤ n := by omega
    by_cases h2 : n ≤ 256
    · clear hn
      go_enter Try.func45, Try.ntmps45
      go_wp2_with (go_at_call 63; refine (byte _ p a len cap C0.out).mono ?_; rintro e w1 ⟨x, rfl, hx0, hx1, hk, hc⟩; have K1 := Lib.hid hk; have C1 := Lib.hid hc; clear hk hc)
      go_ret
      exact ⟨x % n, rfl, Int.emod_nonneg _ (by omega), fun _ => Int.emod_lt_of_pos _ (by omega), K1.out, C1.out⟩
    · go_enter Try.func45, Try.ntmps45
      go_wp2_with (go_at_call 63; refine (byte _ p a len cap C0.out).mono ?_; rintro e w1 ⟨x, rfl, hx0, hx1, hk, hc⟩; have K1 := Lib.hid hk; have C1 := Lib.hid hc; clear hk hc C0)
      go_wp2_with (go_at_call 63; refine (byte _ p a len cap C1.out).mono ?_; rintro e w2 ⟨y, rfl, hy0, hy1, hk, hc⟩; have K2 := Lib.hid (K1.out.trans hk); have C2 := Lib.hid hc; clear hk hc C1 K1)
      go_wp2_with (go_at_call 63; refine (byte _ p a len cap C2.out).mono ?_; rintro e w3 ⟨z, rfl, hz0, hz1, hk, hc⟩; have K3 := Lib.hid (K2.out.trans hk); have C3 := Lib.hid hc; clear hk hc C2 K2)
      go_ret
      exact ⟨_, rfl, Int.emod_nonneg _ (by omega), fun _ => Int.emod_lt_of_pos _ (by omega), K3.out, C3.out⟩

def OncePost (p : Nat) (a : Option Addr) (len cap : Nat) (w : World) (e : Ending) (w' : World) : Prop := ∃ b : Bool, e = .returned (.bool b) ∧ Keep p w w' ∧ Cur w' p a len cap
theorem once (n : Int) (hn : n ≤ 9223372036854775807) (w : World) (p : Nat) (a : Option Addr) (len cap : Nat) (hc : Cur w p a len cap) :
    Calls Try.prog 42 #[.pointer (some ⟨p, 0, none⟩), .int .i64 n] w (OncePost p a len cap w) := by
  have HC := fun W => below n hn W p a len cap
  have C0 := Lib.hid hc
  clear hc hn
  go_enter Try.func42, Try.ntmps42
  go_wp2_with (go_at_call 45; refine (HC _ C0.out).mono ?_; rintro e w1 ⟨x, rfl, hx0, hx1, hk, hc⟩; have K1 := Lib.hid hk; have C1 := Lib.hid hc; clear hk hc hx1)
  go_ret
  exact ⟨_, rfl, K1.out, C1.out⟩

/-- A list of the call's own: n cells of block q, each of which holds a value for which P stands. -/
def Row (P : Value → Prop) (w : World) (p q n : Nat) : Prop := q ≠ p ∧ q < w.heap.size ∧ ∀ i, i < n → ∃ v, P v ∧ w.cell? ⟨q, i, none⟩ = some v
theorem Row.keep {P : Value → Prop} {w w' : World} {p q n : Nat} (h : Row P w p q n) (k : Keep p w w') : Row P w' p q n :=
  ⟨h.1, Nat.lt_of_lt_of_le h.2.1 k.size, fun i hi => by
    obtain ⟨v, h1, h2⟩ := h.2.2 i hi
    exact ⟨v, h1, by rw [k.cell h.2.1 h.1]; exact h2⟩⟩

def PickPost (P : Value → Prop) (p : Nat) (a : Option Addr) (len cap : Nat) (w : World) (e : Ending) (w' : World) : Prop := ∃ v, e = .returned v ∧ P v ∧ Keep p w w' ∧ Cur w' p a len cap
theorem pickInt (P : Int → Prop) (n : Nat) (hn0 : 0 < n) (hn : (n : Int) ≤ 9223372036854775807) (w : World) (p q : Nat) (a : Option Addr) (len cap cap2 : Nat) (hr : Row (fun v => ∃ z, v = .int .i64 z ∧ P z) w p q n) (hc : Cur w p a len cap) :
    Calls Try.prog 61 #[.pointer (some ⟨p, 0, none⟩), .slice (some ⟨q, 0, none⟩) n cap2] w (PickPost (fun v => ∃ z, v = .int .i64 z ∧ P z) p a len cap w) := by
  have HC := fun W => below n hn W p a len cap
  have C0 := Lib.hid hc
  have R0 := Lib.hid hr
  clear hc hr
  go_enter Try.func61, Try.ntmps61
  go_wp2_with (go_at_call 45; refine (HC _ C0.out).mono ?_; rintro e w1 ⟨x, rfl, hx0, hx1, hk, hc⟩; have R1 := Lib.hid (R0.out.keep hk); have K1 := Lib.hid hk; have C1 := Lib.hid hc; clear hk hc R0 C0 HC; (obtain ⟨m, rfl⟩ : ∃ m : Nat, x = m := ⟨x.toNat, by omega⟩); (have hm : m < n := by have := hx1 (by omega); omega); (obtain ⟨v, ⟨z, rfl, hP⟩, hv⟩ := R1.out.2.2 m hm); have HP := Lib.hid hP; clear hP hx1)
  go_ret
  exact ⟨_, rfl, ⟨z, rfl, HP.out⟩, K1.out, C1.out⟩
theorem lt_of_cell {w : World} {a : Addr} {v : Value} (h : w.cell? a = some v) : a.block < w.heap.size := by
  rcases Nat.lt_or_ge a.block w.heap.size with h1 | h1
  · exact h1
  · exfalso
    have : w.heap[a.block]? = none := Array.getElem?_eq_none h1
    simp [World.cell?, this] at h
/-- What a slice of bytes that came in gives. -/
theorem code_of_row {w : World} {a : Option Addr} {len cap : Nat} {zs : List Int} (h : kit.IsRow .u8 w a len cap zs) : Code w w.heap.size a len := by
  rcases h with ⟨rfl, rfl, rfl, rfl⟩ | ⟨x, rfl, hl, hm, hz, hc, hw⟩
  · exact ⟨by omega, fun h => absurd h (by omega)⟩
  · unfold maxLen at hm
    refine ⟨by omega, fun h => ?_⟩
    obtain ⟨b, off, rfl, hcell⟩ := ints_at hc (by omega)
    have e0 := hcell 0 (by omega)
    have hb : b < w.heap.size := lt_of_cell (a := ⟨b, off + 0, none⟩) e0
    refine ⟨b, off, rfl, by omega, hb, fun i hi => ⟨zs.getD i 0, ?_, ?_, hcell i (by omega)⟩⟩
    · have := (range_u8 hw i).1; simpa [List.getD] using this
    · have := (range_u8 hw i).2; simpa [List.getD] using this

def NewPost (a : Option Addr) (len cap : Nat) (w : World) (e : Ending) (w' : World) : Prop := e = .returned (.pointer (some ⟨w.heap.size, 0, none⟩)) ∧ Keep w.heap.size w w' ∧ w.heap.size < w'.heap.size ∧ Cur w' w.heap.size a len cap
theorem new_end (w : World) (a : Option Addr) (len cap : Nat) (h : Int) (hc : Code w w.heap.size a len) :
    NewPost a len cap w (.returned (.pointer (some ⟨w.heap.size, 0, none⟩))) (w.alloc (.cells #[.slice a len cap, .int .i64 0, .int .i64 h] 64)) := by
  have K : Keep w.heap.size w (w.alloc (.cells #[.slice a len cap, .int .i64 0, .int .i64 h] 64)) := (Keep.refl _ _).alloc _
  exact ⟨rfl, K, by simp, hc.keep K, 0, h, by omega, by show (w.heap.push _)[w.heap.size]? = _; simp⟩
theorem new (w : World) (a : Option Addr) (len cap : Nat) (hc : Code w w.heap.size a len) :
    Calls Try.prog 40 #[.slice a len cap] w (NewPost a len cap w) := by
  have HC := Lib.hid hc
  have hlen : (len : Int) ≤ 9223372036854775807 := by have := hc.1; omega
  clear hc
  go_enter Try.func40, Try.ntmps40
  go_wp2
  go_loop [3, 4] (fun g i => ∃ (k : Nat) (h : Int), k ≤ len ∧ g = .int .i64 h ∧ i = .int .i64 k) (fun _ i => len - (intOf i).toNat)
  case atStart => exact ⟨0, _, by omega, rfl, rfl⟩
  case round =>
    obtain ⟨k, h, hk, rfl, rfl⟩ := hrel
    by_cases hlt : k < len
    · have hlt2 : (k : Int) < len := by omega
      by_cases h4 : (k : Int) < 4000
      · obtain ⟨b, off, rfl, hbp, -, hcells⟩ := HC.out.2 (by omega)
        obtain ⟨z, hz0, hz1, hz⟩ := hcells k hlt
        have HI := Lib.hid hlt
        clear hcells hk hlt hlen
        go_wp2
        go_round
        case rel => exact ⟨k + 1, _, HI.out, rfl, by go_num⟩
        case measure => have := HI.out; simp [intOf]; omega
      · go_wp2
        go_ret
        exact new_end w a len cap h HC.out
    · have hlt2 : ¬ (k : Int) < len := by omega
      go_wp2
      go_ret
      exact new_end w a len cap h HC.out
end Go.Proofs.Ytalfihfielgmpaa.draw
