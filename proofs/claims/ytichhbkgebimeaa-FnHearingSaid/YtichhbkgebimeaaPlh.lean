/- The harness's functions over placements: copy, size, comparison, marks. Condition: sizes up to 2^26. -/
import Derived.Test.YtichhbkgebimeaaBox
import Derived.Test.YtichhbkgebimeaaHarn
namespace Go.Proofs.Ytichhbkgebimeaa.bx
open Go.RowKit sl harn rng
set_option linter.unusedVariables false
/-- A placement that a function hands back: its positions are the call's own. -/
def PPost (r s : Int) (z : List Int) (w : World) (e : Ending) (w' : World) : Prop :=
  ∃ A n cap, e = .returned (.agg #[.slice A n cap, .int .i64 r, .int .i64 s]) ∧ Ow 3 .i64 w' w.heap.size w'.heap.size A n cap z ∧ Below w.heap.size w w'
/-- Three cells written into one block. -/
theorem below_three {B c : Nat} {a w : World} (h : Below B a w) (hc : B ≤ c) (v0 v1 v2 : Value) :
    Below B a (((w.setCell ⟨c, 0, none⟩ v0).setCell ⟨c, 1, none⟩ v1).setCell ⟨c, 2, none⟩ v2) :=
  ((h.setCell (p := ⟨c, 0, none⟩) hc v0).setCell (p := ⟨c, 1, none⟩) hc v1).setCell (p := ⟨c, 2, none⟩) hc v2
theorem ow_three {E : TypeId} {k : IntKind} {w : World} {lo hi n cap : Nat} {A : Option Addr} {zs : List Int} (h : Ow E k w lo hi A n cap zs) {c : Nat} (hc : c < lo) (v0 v1 v2 : Value) :
    Ow E k (((w.setCell ⟨c, 0, none⟩ v0).setCell ⟨c, 1, none⟩ v1).setCell ⟨c, 2, none⟩ v2) lo hi A n cap zs :=
  h.same (by simp [World.setCell]) fun b h1 h2 => by
    rw [Below.heap_setCell _ _ _ _ (show b ≠ c by omega), Below.heap_setCell _ _ _ _ (show b ≠ c by omega), Below.heap_setCell _ _ _ _ (show b ≠ c by omega)]

set_option maxRecDepth 100000 in
set_option maxHeartbeats 4000000 in
theorem toPla (A : Option Addr) (n cap : Nat) (r s : Int) (z : List Int) (lo hi : Nat) (w : World) (h : Rd .i64 w lo hi A n cap z) (hn : n ≤ 67108864) :
    Calls Try.prog 29 #[.agg #[.slice A n cap, .int .i64 r, .int .i64 s]] w (PPost r s z w) := by
  have HR := Lib.hid h
  clear h
  go_enter Try.func29, Try.ntmps29
  go_wp2_with fail
  obtain ⟨w0, hW⟩ : ∃ w0, ((w.alloc (.cells #[.slice A n cap, .int .i64 r, .int .i64 s] 39)).alloc (.cells #[.slice none 0 0, .int .i64 0, .int .i64 0] 26)).alloc (.cells #[.slice none 0 0, .int .i64 0, .int .i64 0] 26) = w0 := ⟨_, rfl⟩
  rw [hW]
  have B0 := Lib.hid (show Below w.heap.size w w0 by rw [← hW]; exact (below_box2 w _ _).alloc (by simp; omega) _)
  have X0 := Lib.hid (show Bx 39 w0 w.heap.size #[.slice A n cap, .int .i64 r, .int .i64 s] by rw [← hW]; exact ((Bx.made _ w _).below (below_box _ _)).below (below_box _ _))
  have Y0 := Lib.hid (show Bx 26 w0 (w.heap.size + 1) #[.slice none 0 0, .int .i64 0, .int .i64 0] by rw [← hW]; have hh := (Bx.made 26 (w.alloc (.cells #[.slice A n cap, .int .i64 r, .int .i64 s] 39)) #[.slice none 0 0, .int .i64 0, .int .i64 0]).below (below_box _ (.cells #[.slice none 0 0, .int .i64 0, .int .i64 0] 26)); simpa using hh)
  have Z0 := Lib.hid (show Bx 26 w0 (w.heap.size + 1 + 1) #[.slice none 0 0, .int .i64 0, .int .i64 0] by rw [← hW]; have hh := Bx.made 26 ((w.alloc (.cells #[.slice A n cap, .int .i64 r, .int .i64 s] 39)).alloc (.cells #[.slice none 0 0, .int .i64 0, .int .i64 0] 26)) #[.slice none 0 0, .int .i64 0, .int .i64 0]; simpa using hh)
  have R0 := Lib.hid (HR.out.below B0.out)
  clear hW HR
  have x0 : w0.cell? ⟨w.heap.size, 0, none⟩ = some (.slice A n cap) := X0.out.cell 0
  have x1 : w0.cell? ⟨w.heap.size, 1, none⟩ = some (.int .i64 r) := X0.out.cell 1
  have x2 : w0.cell? ⟨w.heap.size, 2, none⟩ = some (.int .i64 s) := X0.out.cell 2
  (with_reducible refine (harn.toIntS z _ _ A n cap _ R0.out hn).mono ?_)
  rintro e w1 ⟨A1, n1, cap1, rfl, ho, hb⟩
  have O1 := Lib.hid ho
  have B1 := Lib.hid (B0.out.trans (hb.mono B0.out.size))
  have X1 := Lib.hid (X0.out.below hb)
  have Y1 := Lib.hid (Y0.out.below hb)
  have Z1 := Lib.hid (Z0.out.below hb)
  have L1 := Lib.hid (show w.heap.size + 1 + 1 < w0.heap.size from Z0.out.lt)
  clear ho hb B0 X0 Y0 Z0 R0 x0 x1 x2
  have x0 : w1.cell? ⟨w.heap.size, 0, none⟩ = some (.slice A n cap) := X1.out.cell 0
  have x1 : w1.cell? ⟨w.heap.size, 1, none⟩ = some (.int .i64 r) := X1.out.cell 1
  have x2 : w1.cell? ⟨w.heap.size, 2, none⟩ = some (.int .i64 s) := X1.out.cell 2
  have y0 : w1.cell? ⟨w.heap.size + 1, 0, none⟩ = some (.slice none 0 0) := Y1.out.cell 0
  have y1 : w1.cell? ⟨w.heap.size + 1, 1, none⟩ = some (.int .i64 0) := Y1.out.cell 1
  have y2 : w1.cell? ⟨w.heap.size + 1, 2, none⟩ = some (.int .i64 0) := Y1.out.cell 2
  have z_0 : w1.cell? ⟨w.heap.size + 1 + 1, 0, none⟩ = some (.slice none 0 0) := Z1.out.cell 0
  have z_1 : w1.cell? ⟨w.heap.size + 1 + 1, 1, none⟩ = some (.int .i64 0) := Z1.out.cell 1
  have z_2 : w1.cell? ⟨w.heap.size + 1 + 1, 2, none⟩ = some (.int .i64 0) := Z1.out.cell 2
  have fy0 : w1.frozen? ⟨w.heap.size + 1, 0, none⟩ = false := Y1.out.free 0
  have fy1 : w1.frozen? ⟨w.heap.size + 1, 1, none⟩ = false := Y1.out.free 1
  have fy2 : w1.frozen? ⟨w.heap.size + 1, 2, none⟩ = false := Y1.out.free 2
  have fz0 : w1.frozen? ⟨w.heap.size + 1 + 1, 0, none⟩ = false := Z1.out.free 0
  have fz1 : w1.frozen? ⟨w.heap.size + 1 + 1, 1, none⟩ = false := Z1.out.free 1
  have fz2 : w1.frozen? ⟨w.heap.size + 1 + 1, 2, none⟩ = false := Z1.out.free 2
  go_wp2_with fail
  (try simp only [Exit.inBlock, Exit.then])
  refine bodyPost_ret (v := .agg #[.slice A1 n1 cap1, .int .i64 r, .int .i64 s]) ?_ rfl ⟨A1, n1, cap1, rfl, ?_, ?_⟩
  · rw [results_cell1 rfl]
    go_simp
  · exact (ow_three (ow_three O1.out (by have := L1.out; omega) _ _ _) (by have := L1.out; omega) _ _ _).up.down (by have := L1.out; omega)
  · exact below_three (below_three B1.out (by omega) _ _ _) (by omega) _ _ _
theorem szI_in (A : Option Addr) (n cap : Nat) (left : Int) (hl : 0 ≤ left ∧ left ≤ 1048576) (hn : (n : Int) ≤ 9223372036854775807) (hle : (n : Int) ≤ left) (w : World) :
    Calls Try.prog 55 #[.slice A n cap, .int .i64 left] w fun e w' => e = .returned (.int .i64 (left - n)) ∧ w = w' := by
  obtain ⟨h0, h1⟩ := hl
  have hd : IntKind.i64.wrap (left - n) = left - n := IntWalk.i64_in _ (by omega)
  have hq : ¬ left - n < 0 := by omega
  go_enter Try.func55, Try.ntmps55
  go_wp2
  go_ret
  exact ⟨rfl, rfl⟩
theorem szI_out (A : Option Addr) (n cap : Nat) (left : Int) (hl : 0 ≤ left ∧ left ≤ 1048576) (hn : (n : Int) ≤ 9223372036854775807) (hle : left < (n : Int)) (w : World) :
    Calls Try.prog 55 #[.slice A n cap, .int .i64 left] w fun e w' => e = .returned (.int .i64 (-1)) ∧ w = w' := by
  obtain ⟨h0, h1⟩ := hl
  have hd : IntKind.i64.wrap (left - n) = left - n := IntWalk.i64_in _ (by omega)
  have hq : left - n < 0 := by omega
  go_enter Try.func55, Try.ntmps55
  go_wp2
  go_ret
  exact ⟨rfl, rfl⟩
theorem sz_in (A : Option Addr) (n cap : Nat) (r s : Int) (left : Int) (hl : 0 ≤ left ∧ left ≤ 1048576) (hn : (n : Int) ≤ 9223372036854775807) (hle : (n : Int) ≤ left) (w : World) :
    Calls Try.prog 27 #[.agg #[.slice A n cap, .int .i64 r, .int .i64 s], .int .i64 left] w (NPost (left - n) w) := by
  have HL := Lib.hid hl
  have HN := Lib.hid hn
  have HE := Lib.hid hle
  have hq : ¬ left - n < 0 := by omega
  clear hl hn hle
  go_enter Try.func27, Try.ntmps27
  go_wp2_with fail
  (with_reducible refine (szI_in A n cap left HL.out HN.out HE.out _).mono ?_)
  rintro e w1 ⟨rfl, rfl⟩
  go_wp2_with fail
  go_ret
  exact ⟨rfl, below_box _ _⟩
theorem sz_out (A : Option Addr) (n cap : Nat) (r s : Int) (left : Int) (hl : 0 ≤ left ∧ left ≤ 1048576) (hn : (n : Int) ≤ 9223372036854775807) (hle : left < (n : Int)) (w : World) :
    Calls Try.prog 27 #[.agg #[.slice A n cap, .int .i64 r, .int .i64 s], .int .i64 left] w (NPost (-1) w) := by
  have HL := Lib.hid hl
  have HN := Lib.hid hn
  have HE := Lib.hid hle
  skip
  clear hl hn hle
  go_enter Try.func27, Try.ntmps27
  go_wp2_with fail
  (with_reducible refine (szI_out A n cap left HL.out HN.out HE.out _).mono ?_)
  rintro e w1 ⟨rfl, rfl⟩
  go_wp2_with fail
  go_ret
  exact ⟨rfl, below_box _ _⟩
set_option maxRecDepth 100000 in
set_option maxHeartbeats 4000000 in
theorem eqPla (A : Option Addr) (n cap : Nat) (r s : Int) (A' : Option Addr) (n' cap' : Nat) (z : List Int) (lo hi lo2 hi2 : Nat) (w : World) (h : Rd .i64 w lo hi A n cap z) (h2 : Rd .i64 w lo2 hi2 A' n' cap' z) :
    Calls Try.prog 30 #[.agg #[.slice A n cap, .int .i64 r, .int .i64 s], .agg #[.slice A' n' cap', .int .i64 r, .int .i64 s]] w (BPost true w) := by
  have HR := Lib.hid (h.below (below_box2 w (.cells #[.slice A n cap, .int .i64 r, .int .i64 s] 26) (.cells #[.slice A' n' cap', .int .i64 r, .int .i64 s] 26)))
  have HS := Lib.hid (h2.below (below_box2 w (.cells #[.slice A n cap, .int .i64 r, .int .i64 s] 26) (.cells #[.slice A' n' cap', .int .i64 r, .int .i64 s] 26)))
  clear h h2
  go_enter Try.func30, Try.ntmps30
  go_wp2_with fail
  obtain ⟨w0, hW⟩ : ∃ w0, (w.alloc (.cells #[.slice A n cap, .int .i64 r, .int .i64 s] 26)).alloc (.cells #[.slice A' n' cap', .int .i64 r, .int .i64 s] 26) = w0 := ⟨_, rfl⟩
  rw [hW]
  have B0 := Lib.hid (show Below w.heap.size w w0 by rw [← hW]; exact below_box2 w _ _)
  have X0 := Lib.hid (show Bx 26 w0 w.heap.size #[.slice A n cap, .int .i64 r, .int .i64 s] by rw [← hW]; exact (Bx.made _ w _).below (below_box _ _))
  have Y0 := Lib.hid (show Bx 26 w0 (w.heap.size + 1) #[.slice A' n' cap', .int .i64 r, .int .i64 s] by rw [← hW]; have hh := Bx.made 26 (w.alloc (.cells #[.slice A n cap, .int .i64 r, .int .i64 s] 26)) #[.slice A' n' cap', .int .i64 r, .int .i64 s]; simpa using hh)
  rw [hW] at HR HS
  clear hW
  (with_reducible refine (harn.eqIntS_yes z _ _ _ _ A A' n cap n' cap' _ HR.out HS.out).mono ?_)
  rintro e w1 ⟨rfl, hb⟩
  have B1 := Lib.hid (B0.out.trans (hb.mono B0.out.size))
  have X1 := Lib.hid (X0.out.below hb)
  have Y1 := Lib.hid (Y0.out.below hb)
  clear hb
  have c0 : w1.cell? ⟨w.heap.size, 0, none⟩ = some (.slice A n cap) := X1.out.cell 0
  have c1 : w1.cell? ⟨w.heap.size, 1, none⟩ = some (.int .i64 r) := X1.out.cell 1
  have c2 : w1.cell? ⟨w.heap.size, 2, none⟩ = some (.int .i64 s) := X1.out.cell 2
  have y0 : w1.cell? ⟨w.heap.size + 1, 0, none⟩ = some (.slice A' n' cap') := Y1.out.cell 0
  have y1 : w1.cell? ⟨w.heap.size + 1, 1, none⟩ = some (.int .i64 r) := Y1.out.cell 1
  have y2 : w1.cell? ⟨w.heap.size + 1, 2, none⟩ = some (.int .i64 s) := Y1.out.cell 2
  go_wp2_with fail
  go_ret
  exact ⟨rfl, B1.out⟩
def MPost (w : World) (lo hi : Nat) (A : Option Addr) (n cap : Nat) (q : Int) (e : Ending) (w' : World) : Prop :=
  e = .returned (.int .i64 (q + n)) ∧ Ow 3 .i64 w' lo hi A n cap (marks .i64 q n) ∧ Tch lo hi w w'
theorem markPla (A : Option Addr) (n cap : Nat) (r s : Int) (z : List Int) (lo hi : Nat) (q : Int) (w : World) (h : Ow 3 .i64 w lo hi A n cap z) (hk0 : 0 ≤ q) (hk : q ≤ 1099511627776) (hn : n ≤ 67108864) :
    Calls Try.prog 34 #[.agg #[.slice A n cap, .int .i64 r, .int .i64 s], .int .i64 q] w (MPost w lo hi A n cap q) := by
  have HR := Lib.hid (h.below (below_box w (.cells #[.slice A n cap, .int .i64 r, .int .i64 s] 26)))
  have HH := Lib.hid h.hi_
  clear h
  go_enter Try.func34, Try.ntmps34
  go_wp2_with fail
  (with_reducible refine (harn.markIntS z lo hi A n cap q _ HR.out hk0 hk hn).mono ?_)
  rintro e w1 ⟨rfl, ho, ht⟩
  have O1 := Lib.hid ho
  have T1 := Lib.hid (show Tch lo hi w w1 from ⟨ht.os, ht.tape, ht.output, by have := ht.size; simp at this; omega, fun b hb hd => by rw [ht.block b (by simp; omega) hd]; exact heap_alloc_old _ _ hb⟩)
  clear ho ht
  go_wp2_with fail
  go_ret
  exact ⟨rfl, O1.out, T1.out⟩
end Go.Proofs.Ytichhbkgebimeaa.bx
