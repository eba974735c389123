/- The frame of numbers and a body, of the program. Condition: none. -/
import Derived.Test.YtnnlkkohbjolaaaFhr
import Derived.BigRegion
namespace Go.Proofs.Ytnnlkkohbjolaaa.fbx
open Go.RowKit sl harn rng frm
set_option linter.unusedVariables false
theorem rd_cell {k : IntKind} {w : World} {lo hi n cap b off : Nat} {zs : List Int} (h : Rd k w lo hi (some ⟨b, off, none⟩) n cap zs) {i : Nat} (hi' : i < n) : w.cell? ⟨b, off + i, none⟩ = some (.int k (zs.getD i 0)) := by
  obtain ⟨b', off', e, _, _, hc⟩ := h.at_ hi'
  injection e with e; injection e with e1 e2 e3
  subst e1 e2
  exact hc
theorem and1 (y : Int) (h0 : 0 ≤ y) (h1 : y ≤ 1000000000000) : bits .and .i64 y 1 = y % 2 := by
  obtain ⟨n, rfl⟩ := Int.eq_ofNat_of_zero_le h0
  show IntKind.i64.wrap ((BitVec.ofInt 64 (n : Int) &&& BitVec.ofInt 64 ((1 : Nat) : Int)).toNat : Int) = _
  rw [BitVec.toNat_and]
  have e1 : (BitVec.ofInt 64 (n : Int)).toNat = n := by rw [BitVec.ofInt_natCast, BitVec.toNat_ofNat]; omega
  have e2 : (BitVec.ofInt 64 ((1 : Nat) : Int)).toNat = 1 := by decide
  rw [e1, e2, Nat.and_one_is_mod, IntKind.wrap_i64]; omega
theorem and2 (y : Int) (h0 : 0 ≤ y) (h1 : y ≤ 1000000000000) : bits .and .i64 y 2 = y / 2 % 2 * 2 := by
  obtain ⟨n, rfl⟩ := Int.eq_ofNat_of_zero_le h0
  show IntKind.i64.wrap ((BitVec.ofInt 64 (n : Int) &&& BitVec.ofInt 64 ((2 : Nat) : Int)).toNat : Int) = _
  rw [BitVec.toNat_and]
  have e1 : (BitVec.ofInt 64 (n : Int)).toNat = n := by rw [BitVec.ofInt_natCast, BitVec.toNat_ofNat]; omega
  have e2 : (BitVec.ofInt 64 ((2 : Nat) : Int)).toNat = 2 := by decide
  have e3 : n &&& 2 = n / 2 % 2 * 2 := by
    have ha := Nat.shiftRight_and_distrib (a := n) (b := 2) (i := 1)
    have hb := Nat.and_mod_two_pow (a := n) (b := 2) (n := 1)
    simp [Nat.shiftRight_eq_div_pow] at ha hb
    omega
  rw [e1, e2, e3, IntKind.wrap_i64]; omega

set_option maxRecDepth 100000 in
set_option maxHeartbeats 4000000 in
theorem implFo (a b c d e y g : Int) (h0 : 0 ≤ y) (h1 : y ≤ 1000000000000) (lo hi : Nat) (A : Option Addr) (cap : Nat) (B : Option Addr) (m c2 : Nat) (w : World) (h : Rd .i64 w lo hi A 7 cap [a, b, c, d, e, y, g]) :
    Calls Try.prog 53 #[.slice A 7 cap, .slice B m c2] w fun en w' => en = .returned (.agg #[.int .i64 a, .int .i64 b, .int .i64 c, .int .i64 d, .int .i64 e, .bool (decide (y % 2 = 1)), .bool (decide (y / 2 % 2 = 1)), .int .i64 g, .slice B m c2]) ∧ Below w.heap.size w w' := by
  obtain ⟨p, hp⟩ : ∃ p, decide (y % 2 = 1) = p := ⟨_, rfl⟩
  obtain ⟨q, hq⟩ : ∃ q, decide (y / 2 % 2 = 1) = q := ⟨_, rfl⟩
  rw [hp, hq]
  obtain ⟨y1, hy1⟩ : ∃ y1, bits .and .i64 y 1 = y1 := ⟨_, rfl⟩
  obtain ⟨y2, hy2⟩ : ∃ y2, bits .and .i64 y 2 = y2 := ⟨_, rfl⟩
  have f1 : (y1 != 0) = p := by
    rw [← hp, ← hy1, and1 y h0 h1]
    rcases Int.emod_two_eq y with h | h <;> rw [h] <;> rfl
  have f2 : (y2 != 0) = q := by
    rw [← hq, ← hy2, and2 y h0 h1]
    rcases Int.emod_two_eq (y / 2) with h | h <;> rw [h] <;> rfl
  obtain ⟨bk, off, rfl, _, hbk1, _⟩ := h.at_ (i := 0) (by omega)
  have hbk : bk ≠ w.heap.size := by have := h.hi_; omega
  have hcap := h.cap_
  have HR := Lib.hid h
  clear hp hq h0 h1 h
  have B0 := Lib.hid (below_box w (.cells #[.int .i64 0, .int .i64 0, .int .i64 0, .int .i64 0, .int .i64 0, .bool false, .bool false, .int .i64 0, .slice none 0 0] 25))
  have Z0 := Lib.hid (Bx.made 25 w #[.int .i64 0, .int .i64 0, .int .i64 0, .int .i64 0, .int .i64 0, .bool false, .bool false, .int .i64 0, .slice none 0 0])
  have R0 := Lib.hid (HR.out.below B0.out)
  have n0 : (w.alloc (.cells #[.int .i64 0, .int .i64 0, .int .i64 0, .int .i64 0, .int .i64 0, .bool false, .bool false, .int .i64 0, .slice none 0 0] 25)).cell? ⟨bk, off, none⟩ = some (.int .i64 a) := rd_cell R0.out (i := 0) (by omega)
  have n1 : (w.alloc (.cells #[.int .i64 0, .int .i64 0, .int .i64 0, .int .i64 0, .int .i64 0, .bool false, .bool false, .int .i64 0, .slice none 0 0] 25)).cell? ⟨bk, off + 1, none⟩ = some (.int .i64 b) := rd_cell R0.out (i := 1) (by omega)
  have n2 : (w.alloc (.cells #[.int .i64 0, .int .i64 0, .int .i64 0, .int .i64 0, .int .i64 0, .bool false, .bool false, .int .i64 0, .slice none 0 0] 25)).cell? ⟨bk, off + 2, none⟩ = some (.int .i64 c) := rd_cell R0.out (i := 2) (by omega)
  have n3 : (w.alloc (.cells #[.int .i64 0, .int .i64 0, .int .i64 0, .int .i64 0, .int .i64 0, .bool false, .bool false, .int .i64 0, .slice none 0 0] 25)).cell? ⟨bk, off + 3, none⟩ = some (.int .i64 d) := rd_cell R0.out (i := 3) (by omega)
  have n4 : (w.alloc (.cells #[.int .i64 0, .int .i64 0, .int .i64 0, .int .i64 0, .int .i64 0, .bool false, .bool false, .int .i64 0, .slice none 0 0] 25)).cell? ⟨bk, off + 4, none⟩ = some (.int .i64 e) := rd_cell R0.out (i := 4) (by omega)
  have n5 : (w.alloc (.cells #[.int .i64 0, .int .i64 0, .int .i64 0, .int .i64 0, .int .i64 0, .bool false, .bool false, .int .i64 0, .slice none 0 0] 25)).cell? ⟨bk, off + 5, none⟩ = some (.int .i64 y) := rd_cell R0.out (i := 5) (by omega)
  have n6 : (w.alloc (.cells #[.int .i64 0, .int .i64 0, .int .i64 0, .int .i64 0, .int .i64 0, .bool false, .bool false, .int .i64 0, .slice none 0 0] 25)).cell? ⟨bk, off + 6, none⟩ = some (.int .i64 g) := rd_cell R0.out (i := 6) (by omega)
  clear HR R0
  go_enter Try.func53, Try.ntmps53
  go_wp2_with fail
  obtain ⟨w0, hW⟩ : ∃ w0, w.alloc (.cells #[.int .i64 0, .int .i64 0, .int .i64 0, .int .i64 0, .int .i64 0, .bool false, .bool false, .int .i64 0, .slice none 0 0] 25) = w0 := ⟨_, rfl⟩
  rw [hW] at B0 Z0 n0 n1 n2 n3 n4 n5 n6 ⊢
  clear hW
  have z0 : w0.cell? ⟨w.heap.size, 0, none⟩ = some (.int .i64 0) := Z0.out.cell 0
  have z1 : w0.cell? ⟨w.heap.size, 1, none⟩ = some (.int .i64 0) := Z0.out.cell 1
  have z2 : w0.cell? ⟨w.heap.size, 2, none⟩ = some (.int .i64 0) := Z0.out.cell 2
  have z3 : w0.cell? ⟨w.heap.size, 3, none⟩ = some (.int .i64 0) := Z0.out.cell 3
  have z4 : w0.cell? ⟨w.heap.size, 4, none⟩ = some (.int .i64 0) := Z0.out.cell 4
  have z5 : w0.cell? ⟨w.heap.size, 5, none⟩ = some (.bool false) := Z0.out.cell 5
  have z6 : w0.cell? ⟨w.heap.size, 6, none⟩ = some (.bool false) := Z0.out.cell 6
  have z7 : w0.cell? ⟨w.heap.size, 7, none⟩ = some (.int .i64 0) := Z0.out.cell 7
  have z8 : w0.cell? ⟨w.heap.size, 8, none⟩ = some (.slice none 0 0) := Z0.out.cell 8
  have u0 : w0.frozen? ⟨w.heap.size, 0, none⟩ = false := Z0.out.free 0
  have u1 : w0.frozen? ⟨w.heap.size, 1, none⟩ = false := Z0.out.free 1
  have u2 : w0.frozen? ⟨w.heap.size, 2, none⟩ = false := Z0.out.free 2
  have u3 : w0.frozen? ⟨w.heap.size, 3, none⟩ = false := Z0.out.free 3
  have u4 : w0.frozen? ⟨w.heap.size, 4, none⟩ = false := Z0.out.free 4
  have u5 : w0.frozen? ⟨w.heap.size, 5, none⟩ = false := Z0.out.free 5
  have u6 : w0.frozen? ⟨w.heap.size, 6, none⟩ = false := Z0.out.free 6
  have u7 : w0.frozen? ⟨w.heap.size, 7, none⟩ = false := Z0.out.free 7
  have u8 : w0.frozen? ⟨w.heap.size, 8, none⟩ = false := Z0.out.free 8
  go_region
  clear n0 n1 n2 n3 n4 n5 n6
  go_wp2_with fail
  (try simp only [Exit.inBlock, Exit.then])
  refine bodyPost_ret (v := .agg #[.int .i64 a, .int .i64 b, .int .i64 c, .int .i64 d, .int .i64 e, .bool p, .bool q, .int .i64 g, .slice B m c2]) ?_ rfl ⟨rfl, ?_⟩
  · rw [results_cell1 rfl]
    go_simp
  · exact own.below_drew (below_nine B0.out (Nat.le_refl _) _ _ _ _ _ _ _ _ _)
end Go.Proofs.Ytnnlkkohbjolaaa.fbx
