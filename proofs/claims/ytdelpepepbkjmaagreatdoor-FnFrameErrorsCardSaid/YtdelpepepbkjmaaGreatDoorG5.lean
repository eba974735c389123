/- Merged texts of this seat. Itl1: The index of an interleaver, program and specification: a struct with methods, one of them handed on as a method value. Condition: none. | Itl2: Interleave and Deinterleave, program and specification. Condition: lengths up to 2^26. | Itl3: Interleave and Deinterleave, the specification. Condition: lengths up to 2^26. | Scr2: Scramble, program and specification. Condition: lengths up to 2^26. | Ph5: The coded payload and TransmitFrame, program and specification. Condition: the payload has up to 2^20 bytes. | End10: What the laws of stage 10 take of the contracts: everything under one import. Condition: none. | AsErr: errors.As at a variable of the program's own error type: nil; an error of that very type. Condition: package errors' variable errorType holds the handle of the type error. | AsHit: errors.As at an error of the program's own type: it is found. Condition: package errors' variable errorType holds the handle of the type error. | Cut: Cuts of a slice as runs, and what is read through them. Condition: none. | Bits5: Bit strings, program and specification: BitsToBytes. Condition: lengths up to 2^26. | Bk: A row that is filled from its end. Condition: none. | Scst: The costs as the specification's table has them: in the tail no bit 1. Condition: none (no program). -/
import Derived.Deep.RegionWith
import Derived.Test.YtdelpepepbkjmaaGreatDoorRows
import Derived.WalkKit
import Derived.LaidEql
import Derived.Stop.Asserts
import Derived.RowKitTokens
import Derived.Laws.Rows
import Derived.Laws.CopyRow
import Derived.Below
import Derived.Lib.Hide
import Derived.Test.YtdelpepepbkjmaaGreatDoorG1
import Derived.Test.YtdelpepepbkjmaaGreatDoorG2
import Derived.Test.YtdelpepepbkjmaaGreatDoorG3
import Derived.Test.YtdelpepepbkjmaaGreatDoorG4
section
namespace Go.Proofs.YtdelpepepbkjmaaGreatDoor.itl
open Go.RowKit sl harn rng itm

theorem isValid_yes (n c : Nat) (hc : 1 ≤ c ∧ c ≤ 64) (hn : n ≤ 10000) (w : World) :
    Calls Tryz.prog 125 #[.agg #[.int .i64 n, .int .i64 c]] w fun e w' => e = .returned (.bool true) ∧ Below w.heap.size w w' := by
  have H1 := Lib.hid (show 1 ≤ (c : Int) ∧ (c : Int) ≤ 64 by omega)
  have H2 := Lib.hid (show 0 ≤ (n : Int) ∧ (n : Int) ≤ 10000 by omega)
  clear hc hn
  go_enter Tryz.func125, Tryz.ntmps125
  go_wp2_with fail
  (with_reducible refine (inRange_yes c 1 64 H1.out _).mono ?_)
  rintro e w1 ⟨rfl, rfl⟩
  go_wp2_with fail
  (with_reducible refine (inRange_yes n 0 10000 H2.out _).mono ?_)
  rintro e w1 ⟨rfl, rfl⟩
  go_wp2_with fail
  go_ret
  exact ⟨rfl, (Below.refl _ _).alloc (Nat.le_refl _) _⟩
theorem isValid_no (n c : Int) (h : ¬ Ok n c) (w : World) :
    Calls Tryz.prog 125 #[.agg #[.int .i64 n, .int .i64 c]] w fun e w' => e = .returned (.bool false) ∧ Below w.heap.size w w' := by
  by_cases h1 : 1 ≤ c ∧ c ≤ 64
  · have H1 := Lib.hid h1
    have H2 := Lib.hid (show ¬ (0 ≤ n ∧ n ≤ 10000) from fun g => h ⟨h1, g⟩)
    clear h h1
    go_enter Tryz.func125, Tryz.ntmps125
    go_wp2_with fail
    (with_reducible refine (inRange_yes c 1 64 H1.out _).mono ?_)
    rintro e w1 ⟨rfl, rfl⟩
    go_wp2_with fail
    (with_reducible refine (inRange_no n 0 10000 H2.out _).mono ?_)
    rintro e w1 ⟨rfl, rfl⟩
    go_wp2_with fail
    go_ret
    exact ⟨rfl, (Below.refl _ _).alloc (Nat.le_refl _) _⟩
  · have H1 := Lib.hid h1
    clear h h1
    go_enter Tryz.func125, Tryz.ntmps125
    go_wp2_with fail
    (with_reducible refine (inRange_no c 1 64 H1.out _).mono ?_)
    rintro e w1 ⟨rfl, rfl⟩
    go_wp2_with fail
    go_ret
    exact ⟨rfl, (Below.refl _ _).alloc (Nat.le_refl _) _⟩
theorem ok_yes (n c : Int) (h : Ok n c) (w : World) :
    Calls Tryz.prog 75 #[.int .i64 n, .int .i64 c] w fun e w' => e = .returned (.bool true) ∧ w = w' := by
  have H1 := Lib.hid h.1
  have H2 := Lib.hid h.2
  clear h
  go_enter Tryz.func75, Tryz.ntmps75
  go_wp2_with fail
  (with_reducible refine (l1In_yes c 1 64 H1.out _).mono ?_)
  rintro e w1 ⟨rfl, rfl⟩
  go_wp2_with fail
  (with_reducible refine (l1In_yes n 0 10000 H2.out _).mono ?_)
  rintro e w1 ⟨rfl, rfl⟩
  go_wp2_with fail
  go_ret
  exact ⟨rfl, rfl⟩
theorem ok_no (n c : Int) (h : ¬ Ok n c) (w : World) :
    Calls Tryz.prog 75 #[.int .i64 n, .int .i64 c] w fun e w' => e = .returned (.bool false) ∧ w = w' := by
  by_cases h1 : 1 ≤ c ∧ c ≤ 64
  · have H1 := Lib.hid h1
    have H2 := Lib.hid (show ¬ (0 ≤ n ∧ n ≤ 10000) from fun g => h ⟨h1, g⟩)
    clear h h1
    go_enter Tryz.func75, Tryz.ntmps75
    go_wp2_with fail
    (with_reducible refine (l1In_yes c 1 64 H1.out _).mono ?_)
    rintro e w1 ⟨rfl, rfl⟩
    go_wp2_with fail
    (with_reducible refine (l1In_no n 0 10000 H2.out _).mono ?_)
    rintro e w1 ⟨rfl, rfl⟩
    go_wp2_with fail
    go_ret
    exact ⟨rfl, rfl⟩
  · have H1 := Lib.hid h1
    clear h h1
    go_enter Tryz.func75, Tryz.ntmps75
    go_wp2_with fail
    (with_reducible refine (l1In_no c 1 64 H1.out _).mono ?_)
    rintro e w1 ⟨rfl, rfl⟩
    go_wp2_with fail
    go_ret
    exact ⟨rfl, rfl⟩

/-- The parts of a position, as the walks meet them. -/
theorem parts {n c i : Nat} (hc : 1 ≤ c ∧ c ≤ 64) (hn : n ≤ 10000) (hi : i < n) :
    ∃ q r row col p m s : Nat, (n : Int) / c = q ∧ (n : Int).tdiv c = q ∧ (n : Int) % c = r ∧ (n : Int).tmod c = r ∧ (i : Int) / c = row ∧ (i : Int).tdiv c = row ∧ (i : Int) % c = col ∧ (i : Int).tmod c = col ∧
      (col : Int) * q = p ∧ (m : Int) = (if (r : Int) < col then (r : Int) else col) ∧ (p : Int) + m = s ∧ (s : Int) + row = pos n c i ∧ q ≤ 10000 ∧ r ≤ 64 ∧ row ≤ 10000 ∧ col ≤ 64 ∧ p ≤ 10000 ∧ m ≤ 64 ∧ s ≤ 10064 ∧ pos n c i ≤ 9999 := by
  have h1 := Nat.mod_lt i (show 0 < c by omega)
  have h2 := Nat.mod_lt n (show 0 < c by omega)
  have hp := pos_lt (c := c) (by omega) hi
  have e : pos n c i = (i % c) * (n / c) + min (i % c) (n % c) + i / c := rfl
  refine ⟨n / c, n % c, i / c, i % c, (i % c) * (n / c), min (i % c) (n % c), (i % c) * (n / c) + min (i % c) (n % c), by rw [Int.natCast_ediv], by rw [Int.tdiv_eq_ediv_of_nonneg (by omega), Int.natCast_ediv], by rw [Int.natCast_emod], by rw [Int.tmod_eq_emod_of_nonneg (by omega), Int.natCast_emod],
    by rw [Int.natCast_ediv], by rw [Int.tdiv_eq_ediv_of_nonneg (by omega), Int.natCast_ediv], by rw [Int.natCast_emod], by rw [Int.tmod_eq_emod_of_nonneg (by omega), Int.natCast_emod], by rw [Int.natCast_mul], ?_, by rw [Int.natCast_add], by rw [e, ← Int.natCast_add],
    Nat.le_trans (Nat.div_le_self _ _) hn, by omega, Nat.le_trans (Nat.div_le_self _ _) (by omega), by omega, ?_, by omega, ?_, by omega⟩
  rotate_left
  · rw [e] at hp
    generalize (i % c) * (n / c) = a at *
    generalize i / c = b at *
    omega
  · rw [e] at hp
    generalize (i % c) * (n / c) = a at *
    generalize i / c = b at *
    omega
  generalize i % c = a at *
  generalize n % c = b at *
  split <;> omega

theorem boxed {w w1 : World} {o : Obj} {m : Nat} (hb : Below ((w.alloc o).drewN m).heap.size ((w.alloc o).drewN m) w1) : Below w.heap.size w w1 :=
  (((Below.refl w.heap.size w).alloc (Nat.le_refl _) o).trans (show Below w.heap.size (w.alloc o) ((w.alloc o).drewN m) from ⟨rfl, rfl, rfl, Nat.le_refl _, fun _ _ => rfl⟩)).trans (hb.mono (by show w.heap.size ≤ (w.alloc o).heap.size; simp))
set_option maxRecDepth 100000 in
theorem position (n c i : Nat) (hc : 1 ≤ c ∧ c ≤ 64) (hn : n ≤ 10000) (hi : i < n) (w : World) :
    Calls Tryz.prog 126 #[.agg #[.int .i64 n, .int .i64 c], .int .i64 i] w fun e w' => e = .returned (.int .i64 (pos n c i : Nat)) ∧ Below w.heap.size w w' := by
  obtain ⟨q, r, row, col, p, m, s, h1, h2, h3, h4, h5, h6, h7, h8, h9, h10, h11, h12, h13, h14, h15, h16, h17, h18, h20, h19⟩ := parts hc hn hi
  have hcz2 : ((c : Int) == 0) = false := by
    have : ¬ (c : Int) = 0 := by omega
    simpa using this
  have hc1 : (c : Int) ≤ 64 := by omega
  have hc0 : 1 ≤ (c : Int) := by omega
  have HM := Lib.hid h10
  obtain ⟨z, hz⟩ : ∃ z, pos n c i = z := ⟨_, rfl⟩
  rw [hz] at h12 h19
  rw [hz]
  clear h10 hc hi hn hz
  go_enter Tryz.func126, Tryz.ntmps126
  go_wp2
  go_quiet (fail)
  go_wp2
  go_quiet (fail)
  go_wp2_with fail
  (with_reducible refine (implMin col r m HM.out _).mono ?_)
  rintro e w1 ⟨rfl, hb⟩
  have HB := Lib.hid (boxed hb)
  clear hb h1 h2 h3 h4 h5 h6 h7 h8 h9 h13 h14 h16
  go_wp2_with fail
  go_ret
  exact ⟨rfl, HB.out⟩
/-- The index function, and that there is one. -/
def FunPost (n c : Nat) (w : World) (e : Ending) (w' : World) : Prop :=
  e = .returned (.tuple #[.func (.func 126) #[.agg #[.int .i64 n, .int .i64 c]] #[], .bool true]) ∧ Below w.heap.size w w'
theorem fun_yes (n c : Nat) (hc : 1 ≤ c ∧ c ≤ 64) (hn : n ≤ 10000) (w : World) :
    Calls Tryz.prog 97 #[.int .i64 n, .int .i64 c] w (FunPost n c w) := by
  have H := Lib.hid (And.intro hc hn)
  clear hc hn
  go_enter Tryz.func97, Tryz.ntmps97
  go_wp2_with fail
  (with_reducible refine (isValid_yes n c H.out.1 H.out.2 _).mono ?_)
  rintro e w1 ⟨rfl, hb⟩
  have HB := Lib.hid (((Below.refl w.heap.size w).alloc (Nat.le_refl _) _).trans (hb.mono (by simp)))
  have hc0 := hb.block w.heap.size (by simp)
  have c0 : w1.heap[w.heap.size]? = some (.cells #[.int .i64 n, .int .i64 c] 137 (0, 0)) := hc0.trans (heap_alloc_new w _)
  have c1 : w1.cell? ⟨w.heap.size, 0, none⟩ = some (.int .i64 n) := by simp [World.cell?, c0]
  have c2 : w1.cell? ⟨w.heap.size, 1, none⟩ = some (.int .i64 c) := by simp [World.cell?, c0]
  clear hb hc0 c0
  go_wp2_with fail
  go_ret2
  exact ⟨rfl, HB.out⟩
theorem fun_no (n c : Int) (h : ¬ Ok n c) (w : World) :
    Calls Tryz.prog 97 #[.int .i64 n, .int .i64 c] w fun e w' => e = .returned (.tuple #[Value.nilFunc, .bool false]) ∧ Below w.heap.size w w' := by
  have H := Lib.hid h
  clear h
  go_enter Tryz.func97, Tryz.ntmps97
  go_wp2_with fail
  (with_reducible refine (isValid_no n c H.out _).mono ?_)
  rintro e w1 ⟨rfl, hb⟩
  have HB := Lib.hid (((Below.refl w.heap.size w).alloc (Nat.le_refl _) _).trans (hb.mono (by simp)))
  clear hb
  go_wp2_with fail
  go_ret2
  exact ⟨rfl, HB.out⟩

/-- The specification draws, and does no more. -/
def IdxPost (n c i : Int) (w : World) (e : Ending) (w' : World) : Prop := e = .returned (.int .i64 (idx n c i)) ∧ ∃ m, w' = w.drewN m
theorem drewN_zero (w : World) : w = w.drewN 0 := rfl
set_option maxRecDepth 100000 in
theorem specIdx (n c i : Int) (w : World) :
    Calls Tryz.prog 76 #[.int .i64 n, .int .i64 c, .int .i64 i] w (IdxPost n c i w) := by
  by_cases h : Ok n c
  · have HO := Lib.hid h
    obtain ⟨a, b, rfl, rfl, h1, h2, h3⟩ := h.nats
    by_cases hi : 0 ≤ i ∧ i ≤ (a : Int) - 1
    · obtain ⟨k, rfl⟩ := Int.eq_ofNat_of_zero_le hi.1
      have HX := Lib.hid (idx_yes (i := k) ⟨h1, h2⟩ h3 (by omega))
      have HI := Lib.hid hi
      obtain ⟨q, r, row, col, p, m, s, g1, g2, g3, g4, g5, g6, g7, g8, g9, g10, g11, g12, g13, g14, g15, g16, g17, g18, g20, g19⟩ := parts ⟨h1, h2⟩ h3 (show k < a by omega)
      have hcz2 : ((b : Int) == 0) = false := by
        have : ¬ (b : Int) = 0 := by omega
        simpa using this
      have hc1 : (b : Int) ≤ 64 := by omega
      have hc0 : 1 ≤ (b : Int) := by omega
      have HM := Lib.hid (fun W => (specMin col r m g10 W).mono (fun _ _ ⟨q1, q2⟩ => ⟨q1, q2.symm⟩) : ∀ W, Calls Tryz.prog 12 #[.int .i64 col, .int .i64 r] W fun e w' => e = .returned (.int .i64 m) ∧ w' = W)
      obtain ⟨z, hz⟩ : ∃ z, pos a b k = z := ⟨_, rfl⟩
      rw [hz] at g12 g19 HX
      have k1 : IntKind.i64.wrap (p : Int) = p := IntWalk.i64_in _ (by omega)
      have k2 : IntKind.i64.wrap (s : Int) = s := IntWalk.i64_in _ (by omega)
      have k3 : IntKind.i64.wrap (z : Int) = z := IntWalk.i64_in _ (by omega)
      clear g10 h hi h1 h2 hz
      go_enter Tryz.func76, Tryz.ntmps76
      go_wp2_with fail
      (with_reducible refine (ok_yes a b HO.out _).mono ?_)
      rintro e w1 ⟨rfl, rfl⟩
      go_wp2_with fail
      (with_reducible refine (l1In_yes k 0 ((a : Int) - 1) HI.out _).mono ?_)
      rintro e w1 ⟨rfl, rfl⟩
      go_wp2_with fail
      go_quiet ((go_at_call 12; exact Calls.quiet_of_same (HM.out _)))
      go_wp2_with fail
      go_ret
      exact ⟨by rw [HX.out]; rfl, _, rfl⟩
    · have HX := Lib.hid (idx_no (n := a) (c := b) (i := i) (fun g => hi g.2))
      have HI := Lib.hid hi
      clear h hi h1 h2
      go_enter Tryz.func76, Tryz.ntmps76
      go_wp2_with fail
      (with_reducible refine (ok_yes a b HO.out _).mono ?_)
      rintro e w1 ⟨rfl, rfl⟩
      go_wp2_with fail
      (with_reducible refine (l1In_no i 0 ((a : Int) - 1) HI.out _).mono ?_)
      rintro e w2 ⟨rfl, rfl⟩
      go_wp2_with fail
      go_ret
      exact ⟨by rw [HX.out]; rfl, _, drewN_zero _⟩
  · have HX := Lib.hid (idx_no (i := i) (fun g => h g.1))
    have H := Lib.hid h
    clear h
    go_enter Tryz.func76, Tryz.ntmps76
    go_wp2_with fail
    (with_reducible refine (ok_no n c H.out _).mono ?_)
    rintro e w1 ⟨rfl, rfl⟩
    go_wp2_with fail
    go_ret
    exact ⟨by rw [HX.out]; rfl, _, drewN_zero _⟩
end Go.Proofs.YtdelpepepbkjmaaGreatDoor.itl
end

section
namespace Go.Proofs.YtdelpepepbkjmaaGreatDoor.itl
open Go.RowKit sl harn rng itm

theorem ow_drewN {E : TypeId} {k : IntKind} {w : World} {lo hi n cap m : Nat} {A : Option Addr} {zs : List Int} (h : Ow E k w lo hi A n cap zs) : Ow E k (w.drewN m) lo hi A n cap zs := h.same (Nat.le_refl _) fun _ _ _ => rfl
theorem ow_drew {E : TypeId} {k : IntKind} {w : World} {lo hi n cap : Nat} {A : Option Addr} {zs : List Int} (h : Ow E k w lo hi A n cap zs) : Ow E k w.drew lo hi A n cap zs := h.same (Nat.le_refl _) fun _ _ _ => rfl
theorem below_drewN {B m : Nat} {a w : World} (h : Below B a w) : Below B a (w.drewN m) := h.trans ⟨rfl, rfl, rfl, Nat.le_refl _, fun _ _ => rfl⟩
theorem below_drew {B : Nat} {a w : World} (h : Below B a w) : Below B a w.drew := h.trans ⟨rfl, rfl, rfl, Nat.le_refl _, fun _ _ => rfl⟩
theorem rd_drew {k : IntKind} {w : World} {lo hi n cap : Nat} {A : Option Addr} {zs : List Int} (h : Rd k w lo hi A n cap zs) : Rd k w.drew lo hi A n cap zs := h.same (Nat.le_refl _) fun _ _ _ => rfl
theorem own_some {E : TypeId} {k : IntKind} {w : World} {lo hi n cap : Nat} {A : Option Addr} {zs : List Int} (h : Ow E k w lo hi A n cap zs) (hn : 0 < n) : ∃ b, A = some ⟨b, 0, none⟩ ∧ lo ≤ b := by
  rcases h.form with ⟨_, h0, _⟩ | ⟨g, cur, h, g1, _⟩
  · omega
  · exact ⟨g, h, g1⟩
theorem wf_at {zs : List Int} {n : Nat} (h : Wf .i64 zs) (hl : zs.length = n) {k : Nat} (hk : k < n) {x : Int} (hx : zs.getD k 0 = x) : (Lit.int .i64 x).wf = true := by
  rw [← hx]; exact h.getD (by omega)

set_option maxRecDepth 100000 in
set_option maxHeartbeats 4000000 in
theorem implItl (zs : List Int) (c : Int) (lo hi : Nat) (A : Option Addr) (n cap : Nat) (w : World) (h : Rd .i64 w lo hi A n cap zs) (hn : n ≤ 67108864) :
    Calls Tryz.prog 60 #[.slice A n cap, .int .i64 c] w (SlPost 3 .i64 w (itl zs c)) := by
  obtain ⟨i0, hi0, hz0, hz1, hz2⟩ := info_parts intInfo
  have hb := h.cap_
  have HL := Lib.hid h.len
  have HR := Lib.hid h
  have HZ := Lib.hid (And.intro hi0 (And.intro hz0 (And.intro hz1 hz2)))
  clear h hi0 hz0 hz1 hz2
  by_cases hok : Ok n c
  · have H0 := Lib.hid hok
    obtain ⟨a, c, ha, rfl, h1, h2, h3⟩ := hok.nats
    obtain rfl : n = a := by omega
    have HY := Lib.hid (itl_yes HL.out hok)
    have HC := Lib.hid (show 1 ≤ c ∧ c ≤ 64 from ⟨h1, h2⟩)
    clear hok ha h1 h2
    go_enter Tryz.func60, Tryz.ntmps60
    go_wp2_with (at_builtin; refine wpList_app _ rfl _ _ 28 rfl 3 i0 _ .i64 Tryz.underlying28 HZ.out.1 HZ.out.2.1 HZ.out.2.2.1 (by rw [HZ.out.2.2.2]; omega) rfl rfl rfl (Ow.empty _ _ _) (HR.out.alloc _) (by omega) (by simp) ?_; intro A1 cap1 w1 ho hb1; have HO := Lib.hid (show Ow 3 .i64 w1 w.heap.size w1.heap.size A1 n cap1 zs by simpa using ho); have HB := Lib.hid (((Below.refl _ _).alloc (Nat.le_refl _) _).trans hb1); clear ho hb1)
    go_wp2_with fail
    (with_reducible refine (fun_yes n c HC.out h3 _).mono ?_)
    rintro e w2 ⟨rfl, hb⟩
    have HO2 := Lib.hid (HO.out.below hb).up
    have HB2 := Lib.hid (HB.out.trans (hb.mono HB.out.size))
    clear hb HO HB
    go_wp2_with fail
    go_loopw [23] (fun i wr => ∃ k : Nat, i = .int .i64 k ∧ k ≤ n ∧ Ow 3 .i64 wr w.heap.size wr.heap.size A1 n cap1 (put n c zs k) ∧ Below w.heap.size w wr) (fun i _ => n - (intOf i).toNat)
    case atStart => exact ⟨0, rfl, by omega, HO2.out, HB2.out⟩
    case round =>
      clear HO2 HB2
      obtain ⟨k, rfl, hk, ho, hb⟩ := hrel
      have HO := Lib.hid ho
      have HB := Lib.hid hb
      clear ho hb
      by_cases hlt : k < n
      · have hlt2 : (k : Int) < n := by omega
        have HK := Lib.hid hlt
        obtain ⟨b, rfl, hbl⟩ := own_some HO.out (by omega)
        have HBL := Lib.hid hbl
        obtain ⟨b', off, rfl, g1, g2, hc⟩ := (HR.out.below HB.out).at_ hlt
        obtain ⟨x, hx⟩ : ∃ x, zs.getD k 0 = x := ⟨_, rfl⟩
        have HX := Lib.hid hx
        rw [hx] at hc
        obtain ⟨z, hz⟩ : ∃ z, pos n c k = z := ⟨_, rfl⟩
        have HP := Lib.hid hz
        have hzn : z < n := by rw [← hz]; exact pos_lt (by have := HC.out; omega) hlt
        have hzn2 : (z : Int) < n := by omega
        clear hx hz g1 g2 hbl
        go_wp2_with fail
        (with_reducible refine (position n c k HC.out h3 HK.out _).mono ?_)
        rw [HP.out]
        rintro e w3 ⟨rfl, hb⟩
        have HO3 := Lib.hid (HO.out.below hb).up
        have HB3 := Lib.hid (HB.out.trans (hb.mono HB.out.size))
        have hcell := draw.cell_of HO3.out hzn
        have hfree := HO3.out.free rfl z
        obtain ⟨u, hu⟩ : ∃ u, (put n c zs k).getD z 0 = u := ⟨_, rfl⟩
        rw [hu] at hcell
        clear hb HO HB hu hc
        go_wp2_with fail
        have HO4 := Lib.hid (draw.ow_set HO3.out z x (wf_at HR.out.wf HL.out HK.out HX.out)).up
        have HB4 := Lib.hid (HB3.out.setCell (p := ⟨b, z, none⟩) HBL.out (.int .i64 x))
        go_roundw
        case rel => exact ⟨k + 1, by go_num, by omega, by rw [put_next HP.out HX.out]; exact HO4.out, HB4.out⟩
        case measure => simp [intOf]; omega
      · have hlt2 : ¬ (k : Int) < n := by omega
        obtain rfl : k = n := by omega
        go_wp2_with fail
        go_ret
        rw [HY.out]
        exact ⟨_, _, _, rfl, HO.out, HB.out⟩
  · have H := Lib.hid hok
    have HY := Lib.hid (itl_no (l := zs) (c := c) (by rw [HL.out]; exact hok))
    clear hok
    go_enter Tryz.func60, Tryz.ntmps60
    go_wp2_with (at_builtin; refine wpList_app _ rfl _ _ 28 rfl 3 i0 _ .i64 Tryz.underlying28 HZ.out.1 HZ.out.2.1 HZ.out.2.2.1 (by rw [HZ.out.2.2.2]; omega) rfl rfl rfl (Ow.empty _ _ _) (HR.out.alloc _) (by omega) (by simp) ?_; intro A1 cap1 w1 ho hb1; have HO := Lib.hid (show Ow 3 .i64 w1 w.heap.size w1.heap.size A1 n cap1 zs by simpa using ho); have HB := Lib.hid (((Below.refl _ _).alloc (Nat.le_refl _) _).trans hb1); clear ho hb1)
    go_wp2_with fail
    (with_reducible refine (fun_no n c H.out _).mono ?_)
    rintro e w2 ⟨rfl, hb⟩
    have HO2 := Lib.hid (HO.out.below hb).up
    have HB2 := Lib.hid (HB.out.trans (hb.mono HB.out.size))
    clear hb HO HB
    go_wp2_with fail
    go_ret
    rw [HY.out]
    exact ⟨_, _, _, rfl, HO2.out, HB2.out⟩
set_option maxRecDepth 100000 in
set_option maxHeartbeats 4000000 in
theorem implDei (zs : List Int) (c : Int) (lo hi : Nat) (A : Option Addr) (n cap : Nat) (w : World) (h : Rd .i64 w lo hi A n cap zs) (hn : n ≤ 67108864) :
    Calls Tryz.prog 102 #[.slice A n cap, .int .i64 c] w (SlPost 3 .i64 w (dei zs c)) := by
  obtain ⟨i0, hi0, hz0, hz1, hz2⟩ := info_parts intInfo
  have hb := h.cap_
  have HL := Lib.hid h.len
  have HR := Lib.hid h
  have HZ := Lib.hid (And.intro hi0 (And.intro hz0 (And.intro hz1 hz2)))
  clear h hi0 hz0 hz1 hz2
  by_cases hok : Ok n c
  · have H0 := Lib.hid hok
    obtain ⟨a, c, ha, rfl, h1, h2, h3⟩ := hok.nats
    obtain rfl : n = a := by omega
    have HY := Lib.hid (dei_yes HL.out hok)
    have HC := Lib.hid (show 1 ≤ c ∧ c ≤ 64 from ⟨h1, h2⟩)
    clear hok ha h1 h2
    go_enter Tryz.func102, Tryz.ntmps102
    go_wp2_with (at_builtin; refine wpList_app _ rfl _ _ 28 rfl 3 i0 _ .i64 Tryz.underlying28 HZ.out.1 HZ.out.2.1 HZ.out.2.2.1 (by rw [HZ.out.2.2.2]; omega) rfl rfl rfl (Ow.empty _ _ _) (HR.out.alloc _) (by omega) (by simp) ?_; intro A1 cap1 w1 ho hb1; have HO := Lib.hid (show Ow 3 .i64 w1 w.heap.size w1.heap.size A1 n cap1 zs by simpa using ho); have HB := Lib.hid (((Below.refl _ _).alloc (Nat.le_refl _) _).trans hb1); clear ho hb1)
    go_wp2_with fail
    (with_reducible refine (fun_yes n c HC.out h3 _).mono ?_)
    rintro e w2 ⟨rfl, hb⟩
    have HO2 := Lib.hid (HO.out.below hb).up
    have HB2 := Lib.hid (HB.out.trans (hb.mono HB.out.size))
    clear hb HO HB
    go_wp2_with fail
    go_loopw [22] (fun i wr => ∃ k : Nat, i = .int .i64 k ∧ k ≤ n ∧ Ow 3 .i64 wr w.heap.size wr.heap.size A1 n cap1 (half (back n c zs) zs k) ∧ Below w.heap.size w wr) (fun i _ => n - (intOf i).toNat)
    case atStart => exact ⟨0, rfl, by omega, by rw [half_zero]; exact HO2.out, HB2.out⟩
    case round =>
      clear HO2 HB2
      obtain ⟨k, rfl, hk, ho, hb⟩ := hrel
      have HO := Lib.hid ho
      have HB := Lib.hid hb
      clear ho hb
      by_cases hlt : k < n
      · have hlt2 : (k : Int) < n := by omega
        have HK := Lib.hid hlt
        obtain ⟨b, rfl, hbl⟩ := own_some HO.out (by omega)
        have HBL := Lib.hid hbl
        obtain ⟨z, hz⟩ : ∃ z, pos n c k = z := ⟨_, rfl⟩
        have HP := Lib.hid hz
        have hzn : z < n := by rw [← hz]; exact pos_lt (by have := HC.out; omega) hlt
        have HZN := Lib.hid hzn
        have hzn2 : (z : Int) < n := by omega
        obtain ⟨x, hx⟩ : ∃ x, zs.getD z 0 = x := ⟨_, rfl⟩
        have HX := Lib.hid hx
        have HN := Lib.hid (show (half (back n c zs) zs k).set k x = half (back n c zs) zs (k + 1) from half_next (by rw [back_len, HL.out]) (by rw [back_len]; exact hlt) (by rw [back_at hlt, hz, hx]))
        clear hx hz hbl
        go_wp2_with fail
        (with_reducible refine (position n c k HC.out h3 HK.out _).mono ?_)
        rw [HP.out]
        rintro e w3 ⟨rfl, hb⟩
        have HO3 := Lib.hid (HO.out.below hb).up
        have HB3 := Lib.hid (HB.out.trans (hb.mono HB.out.size))
        obtain ⟨b', off, rfl, g1, g2, hc⟩ := (HR.out.below HB3.out).at_ hzn
        rw [HX.out] at hc
        have hcell := draw.cell_of HO3.out hlt
        have hfree := HO3.out.free rfl k
        obtain ⟨u, hu⟩ : ∃ u, (half (back n c zs) zs k).getD k 0 = u := ⟨_, rfl⟩
        rw [hu] at hcell
        clear hb HO HB hu g1 g2
        go_wp2_with fail
        have HO4 := Lib.hid (draw.ow_set HO3.out k x (wf_at HR.out.wf HL.out HZN.out HX.out)).up
        have HB4 := Lib.hid (HB3.out.setCell (p := ⟨b, k, none⟩) HBL.out (.int .i64 x))
        go_roundw
        case rel => exact ⟨k + 1, by go_num, by omega, by rw [← HN.out]; exact HO4.out, HB4.out⟩
        case measure => simp [intOf]; omega
      · have hlt2 : ¬ (k : Int) < n := by omega
        obtain rfl : k = n := by omega
        go_wp2_with fail
        go_ret
        rw [HY.out]
        have := HO.out
        rw [half_all (back_len _ _ _) HL.out] at this
        exact ⟨_, _, _, rfl, this, HB.out⟩
  · have H := Lib.hid hok
    have HY := Lib.hid (dei_no (l := zs) (c := c) (by rw [HL.out]; exact hok))
    clear hok
    go_enter Tryz.func102, Tryz.ntmps102
    go_wp2_with (at_builtin; refine wpList_app _ rfl _ _ 28 rfl 3 i0 _ .i64 Tryz.underlying28 HZ.out.1 HZ.out.2.1 HZ.out.2.2.1 (by rw [HZ.out.2.2.2]; omega) rfl rfl rfl (Ow.empty _ _ _) (HR.out.alloc _) (by omega) (by simp) ?_; intro A1 cap1 w1 ho hb1; have HO := Lib.hid (show Ow 3 .i64 w1 w.heap.size w1.heap.size A1 n cap1 zs by simpa using ho); have HB := Lib.hid (((Below.refl _ _).alloc (Nat.le_refl _) _).trans hb1); clear ho hb1)
    go_wp2_with fail
    (with_reducible refine (fun_no n c H.out _).mono ?_)
    rintro e w2 ⟨rfl, hb⟩
    have HO2 := Lib.hid (HO.out.below hb).up
    have HB2 := Lib.hid (HB.out.trans (hb.mono HB.out.size))
    clear hb HO HB
    go_wp2_with fail
    go_ret
    rw [HY.out]
    exact ⟨_, _, _, rfl, HO2.out, HB2.out⟩
end Go.Proofs.YtdelpepepbkjmaaGreatDoor.itl
end

section
namespace Go.Proofs.YtdelpepepbkjmaaGreatDoor.itl
open Go.RowKit sl harn rng itm

set_option maxRecDepth 100000 in
set_option maxHeartbeats 4000000 in
theorem specItl (zs : List Int) (c : Int) (lo hi : Nat) (A : Option Addr) (n cap : Nat) (w : World) (h : Rd .i64 w lo hi A n cap zs) (hn : n ≤ 67108864) :
    Calls Tryz.prog 115 #[.slice A n cap, .int .i64 c] w (SlPost 3 .i64 w (itl zs c)) := by
  obtain ⟨i0, hi0, hz0, hz1, hz2⟩ := info_parts intInfo
  have hb := h.cap_
  have HL := Lib.hid h.len
  have HR := Lib.hid h
  have HZ := Lib.hid (And.intro hi0 (And.intro hz0 (And.intro hz1 hz2)))
  clear h hi0 hz0 hz1 hz2
  by_cases hok : Ok n c
  · have H0 := Lib.hid hok
    obtain ⟨a, c, ha, rfl, h1, h2, h3⟩ := hok.nats
    obtain rfl : n = a := by omega
    have HY := Lib.hid (itl_yes HL.out hok)
    have HC := Lib.hid (show 1 ≤ c ∧ c ≤ 64 from ⟨h1, h2⟩)
    clear hok ha h1 h2
    go_enter Tryz.func115, Tryz.ntmps115
    go_wp2_with (at_builtin; refine wpList_app _ rfl _ _ 28 rfl 3 i0 _ .i64 Tryz.underlying28 HZ.out.1 HZ.out.2.1 HZ.out.2.2.1 (by rw [HZ.out.2.2.2]; omega) rfl rfl rfl (Ow.empty _ _ _) (HR.out.alloc _) (by omega) (by simp) ?_; intro A1 cap1 w1 ho hb1; have HO := Lib.hid (show Ow 3 .i64 w1 w.heap.size w1.heap.size A1 n cap1 zs by simpa using ho); have HB := Lib.hid (((Below.refl _ _).alloc (Nat.le_refl _) _).trans hb1); clear ho hb1)
    go_wp2_with fail
    (with_reducible refine (ok_yes n c H0.out _).mono ?_)
    rintro e w2 ⟨rfl, rfl⟩
    go_wp2_with fail
    go_loopw [6] (fun i wr => ∃ k : Nat, i = .int .i64 k ∧ k ≤ n ∧ Ow 3 .i64 wr w.heap.size wr.heap.size A1 n cap1 (put n c zs k) ∧ Below w.heap.size w wr) (fun i _ => n - (intOf i).toNat)
    case atStart => exact ⟨0, rfl, by omega, HO.out, HB.out⟩
    case round =>
      clear HO HB
      obtain ⟨k, rfl, hk, ho, hb⟩ := hrel
      have HO := Lib.hid ho
      have HB := Lib.hid hb
      clear ho hb
      by_cases hlt : k < n
      · have hlt2 : (k : Int) < n := by omega
        have HK := Lib.hid hlt
        obtain ⟨b, rfl, hbl⟩ := own_some HO.out (by omega)
        have HBL := Lib.hid hbl
        obtain ⟨b', off, rfl, g1, g2, hc⟩ := (rd_drew (HR.out.below HB.out)).at_ hlt
        obtain ⟨x, hx⟩ : ∃ x, zs.getD k 0 = x := ⟨_, rfl⟩
        have HX := Lib.hid hx
        rw [hx] at hc
        obtain ⟨z, hz⟩ : ∃ z, pos n c k = z := ⟨_, rfl⟩
        have HP := Lib.hid hz
        have HI := Lib.hid (show idx n c k = z by rw [idx_yes HC.out h3 hlt, hz])
        have hzn : z < n := by rw [← hz]; exact pos_lt (by have := HC.out; omega) hlt
        have hzn2 : (z : Int) < n := by omega
        have hcell := draw.cell_of (ow_drew HO.out) hzn
        have hfree := (ow_drew HO.out).free rfl z
        obtain ⟨u, hu⟩ : ∃ u, (put n c zs k).getD z 0 = u := ⟨_, rfl⟩
        rw [hu] at hcell
        clear hx hz g1 g2 hbl hu
        go_wp2_with fail
        go_region_with (go_at_call 76; refine (specIdx n c k _).mono ?_; unfold IdxPost; rw [HI.out]; rintro e w8 ⟨rfl, m, hm⟩; have O8 := Lib.hid (by rw [hm]; exact ow_drewN (m := m) (ow_drew HO.out) : Ow 3 .i64 w8 w.heap.size wr.heap.size _ n cap1 (put n c zs k)); have B8 := Lib.hid (by rw [hm]; exact below_drewN (m := m) (below_drew HB.out) : Below w.heap.size w w8); have hc8 : w8.cell? ⟨b', off + k, none⟩ = some (.int .i64 x) := (by rw [hm]; exact hc); have hcell8 : w8.cell? ⟨b, z, none⟩ = some (.int .i64 u) := (by rw [hm]; exact hcell); have hfree8 := O8.out.free rfl z; clear hm)
        all_goals
         (have O9 := Lib.hid (show Ow 3 .i64 (w8.setCell ⟨b, z, none⟩ (.int .i64 x)) w.heap.size (w8.setCell ⟨b, z, none⟩ (.int .i64 x)).heap.size _ n cap1 (put n c zs (k + 1)) by rw [put_next HP.out HX.out]; exact (draw.ow_set O8.out z x (wf_at HR.out.wf HL.out hlt HX.out)).up)
          have B9 := Lib.hid (B8.out.setCell (p := ⟨b, z, none⟩) HBL.out (.int .i64 x))
          clear hcell8 hfree8 hcell hfree hc hc8
          go_wp2
          go_roundw
          case rel => exact ⟨k + 1, by go_num, by omega, O9.out, B9.out⟩
          case measure => simp [intOf]; omega)
      · have hlt2 : ¬ (k : Int) < n := by omega
        obtain rfl : k = n := by omega
        go_wp2_with fail
        go_ret
        rw [HY.out]
        exact ⟨_, _, _, rfl, HO.out, HB.out⟩
  · have H := Lib.hid hok
    have HY := Lib.hid (itl_no (l := zs) (c := c) (by rw [HL.out]; exact hok))
    clear hok
    go_enter Tryz.func115, Tryz.ntmps115
    go_wp2_with (at_builtin; refine wpList_app _ rfl _ _ 28 rfl 3 i0 _ .i64 Tryz.underlying28 HZ.out.1 HZ.out.2.1 HZ.out.2.2.1 (by rw [HZ.out.2.2.2]; omega) rfl rfl rfl (Ow.empty _ _ _) (HR.out.alloc _) (by omega) (by simp) ?_; intro A1 cap1 w1 ho hb1; have HO := Lib.hid (show Ow 3 .i64 w1 w.heap.size w1.heap.size A1 n cap1 zs by simpa using ho); have HB := Lib.hid (((Below.refl _ _).alloc (Nat.le_refl _) _).trans hb1); clear ho hb1)
    go_wp2_with fail
    (with_reducible refine (ok_no n c H.out _).mono ?_)
    rintro e w2 ⟨rfl, rfl⟩
    go_wp2_with fail
    go_ret
    rw [HY.out]
    exact ⟨_, _, _, rfl, HO.out, HB.out⟩
set_option maxRecDepth 100000 in
set_option maxHeartbeats 4000000 in
theorem specDei (zs : List Int) (c : Int) (lo hi : Nat) (A : Option Addr) (n cap : Nat) (w : World) (h : Rd .i64 w lo hi A n cap zs) (hn : n ≤ 67108864) :
    Calls Tryz.prog 39 #[.slice A n cap, .int .i64 c] w (SlPost 3 .i64 w (dei zs c)) := by
  obtain ⟨i0, hi0, hz0, hz1, hz2⟩ := info_parts intInfo
  have hb := h.cap_
  have HL := Lib.hid h.len
  have HR := Lib.hid h
  have HZ := Lib.hid (And.intro hi0 (And.intro hz0 (And.intro hz1 hz2)))
  clear h hi0 hz0 hz1 hz2
  by_cases hok : Ok n c
  · have H0 := Lib.hid hok
    obtain ⟨a, c, ha, rfl, h1, h2, h3⟩ := hok.nats
    obtain rfl : n = a := by omega
    have HY := Lib.hid (dei_yes HL.out hok)
    have HC := Lib.hid (show 1 ≤ c ∧ c ≤ 64 from ⟨h1, h2⟩)
    clear hok ha h1 h2
    go_enter Tryz.func39, Tryz.ntmps39
    go_wp2_with (at_builtin; refine wpList_app _ rfl _ _ 28 rfl 3 i0 _ .i64 Tryz.underlying28 HZ.out.1 HZ.out.2.1 HZ.out.2.2.1 (by rw [HZ.out.2.2.2]; omega) rfl rfl rfl (Ow.empty _ _ _) (HR.out.alloc _) (by omega) (by simp) ?_; intro A1 cap1 w1 ho hb1; have HO := Lib.hid (show Ow 3 .i64 w1 w.heap.size w1.heap.size A1 n cap1 zs by simpa using ho); have HB := Lib.hid (((Below.refl _ _).alloc (Nat.le_refl _) _).trans hb1); clear ho hb1)
    go_wp2_with fail
    (with_reducible refine (ok_yes n c H0.out _).mono ?_)
    rintro e w2 ⟨rfl, rfl⟩
    go_wp2_with fail
    go_loopw [6] (fun i wr => ∃ k : Nat, i = .int .i64 k ∧ k ≤ n ∧ Ow 3 .i64 wr w.heap.size wr.heap.size A1 n cap1 (half (back n c zs) zs k) ∧ Below w.heap.size w wr) (fun i _ => n - (intOf i).toNat)
    case atStart => exact ⟨0, rfl, by omega, by rw [half_zero]; exact HO.out, HB.out⟩
    case round =>
      clear HO HB
      obtain ⟨k, rfl, hk, ho, hb⟩ := hrel
      have HO := Lib.hid ho
      have HB := Lib.hid hb
      clear ho hb
      by_cases hlt : k < n
      · have hlt2 : (k : Int) < n := by omega
        have HK := Lib.hid hlt
        obtain ⟨b, rfl, hbl⟩ := own_some HO.out (by omega)
        have HBL := Lib.hid hbl
        obtain ⟨z, hz⟩ : ∃ z, pos n c k = z := ⟨_, rfl⟩
        have HI := Lib.hid (show idx n c k = z by rw [idx_yes HC.out h3 hlt, hz])
        have hzn : z < n := by rw [← hz]; exact pos_lt (by have := HC.out; omega) hlt
        have HZN := Lib.hid hzn
        have hzn2 : (z : Int) < n := by omega
        obtain ⟨x, hx⟩ : ∃ x, zs.getD z 0 = x := ⟨_, rfl⟩
        have HX := Lib.hid hx
        have HN := Lib.hid (show (half (back n c zs) zs k).set k x = half (back n c zs) zs (k + 1) from half_next (by rw [back_len, HL.out]) (by rw [back_len]; exact hlt) (by rw [back_at hlt, hz, hx]))
        clear hx hz hbl
        go_wp2_with fail
        (with_reducible refine (specIdx n c k _).mono ?_)
        unfold IdxPost
        rw [HI.out]
        rintro e w3 ⟨rfl, m, rfl⟩
        have HO3 := Lib.hid (ow_drewN (m := m) HO.out).up
        have HB3 := Lib.hid (below_drewN (m := m) HB.out)
        obtain ⟨b', off, rfl, g1, g2, hc⟩ := (HR.out.below HB3.out).at_ hzn
        rw [HX.out] at hc
        have hcell := draw.cell_of HO3.out hlt
        have hfree := HO3.out.free rfl k
        obtain ⟨u, hu⟩ : ∃ u, (half (back n c zs) zs k).getD k 0 = u := ⟨_, rfl⟩
        rw [hu] at hcell
        clear HO HB hu g1 g2
        go_wp2_with fail
        have HO4 := Lib.hid (draw.ow_set HO3.out k x (wf_at HR.out.wf HL.out HZN.out HX.out)).up
        have HB4 := Lib.hid (HB3.out.setCell (p := ⟨b, k, none⟩) HBL.out (.int .i64 x))
        go_roundw
        case rel => exact ⟨k + 1, by go_num, by omega, by rw [← HN.out]; exact HO4.out, HB4.out⟩
        case measure => simp [intOf]; omega
      · have hlt2 : ¬ (k : Int) < n := by omega
        obtain rfl : k = n := by omega
        go_wp2_with fail
        go_ret
        rw [HY.out]
        have := HO.out
        rw [half_all (back_len _ _ _) HL.out] at this
        exact ⟨_, _, _, rfl, this, HB.out⟩
  · have H := Lib.hid hok
    have HY := Lib.hid (dei_no (l := zs) (c := c) (by rw [HL.out]; exact hok))
    clear hok
    go_enter Tryz.func39, Tryz.ntmps39
    go_wp2_with (at_builtin; refine wpList_app _ rfl _ _ 28 rfl 3 i0 _ .i64 Tryz.underlying28 HZ.out.1 HZ.out.2.1 HZ.out.2.2.1 (by rw [HZ.out.2.2.2]; omega) rfl rfl rfl (Ow.empty _ _ _) (HR.out.alloc _) (by omega) (by simp) ?_; intro A1 cap1 w1 ho hb1; have HO := Lib.hid (show Ow 3 .i64 w1 w.heap.size w1.heap.size A1 n cap1 zs by simpa using ho); have HB := Lib.hid (((Below.refl _ _).alloc (Nat.le_refl _) _).trans hb1); clear ho hb1)
    go_wp2_with fail
    (with_reducible refine (ok_no n c H.out _).mono ?_)
    rintro e w2 ⟨rfl, rfl⟩
    go_wp2_with fail
    go_ret
    rw [HY.out]
    exact ⟨_, _, _, rfl, HO.out, HB.out⟩
end Go.Proofs.YtdelpepepbkjmaaGreatDoor.itl
end

section
namespace Go.Proofs.YtdelpepepbkjmaaGreatDoor.scrs
open Go.RowKit sl harn bm rng scrm

theorem ow_drew {E : TypeId} {k : IntKind} {w : World} {lo hi n cap : Nat} {A : Option Addr} {zs : List Int} (h : Ow E k w lo hi A n cap zs) : Ow E k w.drew lo hi A n cap zs := h.same (Nat.le_refl _) fun _ _ _ => rfl
theorem below_drew {B : Nat} {a w : World} (h : Below B a w) : Below B a w.drew := h.trans ⟨rfl, rfl, rfl, Nat.le_refl _, fun _ _ => rfl⟩
theorem own_some {E : TypeId} {k : IntKind} {w : World} {lo hi n cap : Nat} {A : Option Addr} {zs : List Int} (h : Ow E k w lo hi A n cap zs) (hn : 0 < n) : ∃ b, A = some ⟨b, 0, none⟩ ∧ lo ≤ b := by
  rcases h.form with ⟨_, h0, _⟩ | ⟨g, cur, h, g1, _⟩
  · omega
  · exact ⟨g, h, g1⟩
theorem half_next {a b : List Int} {k : Nat} {v : Int} (h : a.length = b.length) (hk : k < a.length) (hv : a.getD k 0 = v) : (half a b k).set k v = half a b (k + 1) := by
  rw [← hv]; exact half_set h hk

set_option maxRecDepth 100000 in
set_option maxHeartbeats 4000000 in
theorem implScr (s : Int) (zs : List Int) (lo hi : Nat) (A : Option Addr) (n cap : Nat) (w : World) (h : Rd .i64 w lo hi A n cap zs) (hn : n ≤ 67108864) :
    Calls Tryz.prog 56 #[.int .i64 s, .slice A n cap] w (SlPost 3 .i64 w (scr s zs)) := by
  obtain ⟨i0, hi0, hz0, hz1, hz2⟩ := info_parts intInfo
  have hb := h.cap_
  have HL := Lib.hid h.len
  have HR := Lib.hid h
  have HZ := Lib.hid (And.intro hi0 (And.intro hz0 (And.intro hz1 hz2)))
  clear h hi0 hz0 hz1 hz2
  by_cases h : 1 ≤ s ∧ s ≤ 127
  · have H := Lib.hid h
    by_cases hi1 : isb zs = true
    · have H0 := Lib.hid (scr_yes h hi1)
      have HI := Lib.hid hi1
      clear h hi1
      go_enter Tryz.func56, Tryz.ntmps56
      go_wp2_with (at_builtin; refine wpList_app _ rfl _ _ 28 rfl 3 i0 _ .i64 Tryz.underlying28 HZ.out.1 HZ.out.2.1 HZ.out.2.2.1 (by rw [HZ.out.2.2.2]; omega) rfl rfl rfl (Ow.empty _ _ _) (HR.out.alloc _) (by omega) (by simp) ?_; intro A1 cap1 w1 ho hb1; have HO := Lib.hid (show Ow 3 .i64 w1 w.heap.size w1.heap.size A1 n cap1 zs by simpa using ho); have HB := Lib.hid (((Below.refl _ _).alloc (Nat.le_refl _) _).trans hb1); clear ho hb1)
      go_wp2_with fail
      (with_reducible refine (isState_yes s H.out _).mono ?_)
      rintro e w2 ⟨rfl, rfl⟩
      go_wp2_with fail
      (with_reducible refine (bits.implIsb zs _ _ A n cap _ (HR.out.below HB.out)).mono ?_)
      rw [HI.out]
      rintro e w2 ⟨rfl, rfl⟩
      go_wp2_with fail
      go_loopw [0, 21] (fun t i wr => ∃ k : Nat, i = .int .i64 k ∧ t = .int .i64 (nth k s) ∧ k ≤ n ∧ Ow 3 .i64 wr w.heap.size wr.heap.size A1 n cap1 (half (mixed s zs) zs k) ∧ Below w.heap.size w wr) (fun _ i _ => n - (intOf i).toNat)
      case atStart => exact ⟨0, rfl, rfl, by omega, by rw [half_zero]; exact HO.out, HB.out⟩
      case round =>
        clear HO HB
        obtain ⟨k, rfl, rfl, hk, ho, hb⟩ := hrel
        have HO := Lib.hid ho
        have HB := Lib.hid hb
        clear ho hb
        obtain ⟨t, ht⟩ : ∃ t, nth k s = t := ⟨_, rfl⟩
        have HT := Lib.hid ht
        rw [ht]
        clear ht
        by_cases hlt : k < n
        · have hlt2 : (k : Int) < n := by omega
          have HTT := Lib.hid (show 1 ≤ t ∧ t ≤ 127 by rw [← HT.out]; exact nth_in k H.out)
          obtain ⟨b, rfl, hbl⟩ := own_some HO.out (by omega)
          have HBL := Lib.hid hbl
          have hcell := draw.cell_of (ow_drew HO.out) hlt
          have hfree := (ow_drew HO.out).free rfl k
          rw [half_at (by rw [mixed_len, HL.out]; omega)] at hcell
          obtain ⟨x, hx⟩ : ∃ x, zs.getD k 0 = x := ⟨_, rfl⟩
          obtain ⟨o, hoe⟩ : ∃ o, outp t = o := ⟨_, rfl⟩
          obtain ⟨v, hv⟩ : ∃ v, bits .xor .i64 x o = v := ⟨_, rfl⟩
          have hx01 := bm.isb_getD HI.out k
          have ho01 := outp_in t
          rw [hx] at hcell hx01
          rw [hoe] at ho01
          have HV := Lib.hid (show (Lit.int .i64 v).wf = true by rw [← hv, xor_bit hx01 ho01]; exact WalkArith.wf_i64 (by split <;> omega))
          have HN := Lib.hid (show (half (mixed s zs) zs k).set k v = half (mixed s zs) zs (k + 1) from half_next (mixed_len _ _) (by rw [mixed_len, HL.out]; exact hlt) (by rw [mixed_at _ _ _ (by rw [HL.out]; exact hlt), HT.out, hx, hoe, hv]))
          have HE := Lib.hid hoe
          have HX := Lib.hid hx
          clear hx hoe hx01 ho01 hbl
          go_wp2_with fail
          go_region_with (go_at_call 91; refine (outputBit t HTT.out _).mono ?_; rw [HE.out]; rintro e w8 ⟨rfl, hb8⟩; have O8 := Lib.hid ((ow_drew HO.out).below hb8); have hcell8 := draw.cell_of O8.out hlt; rw [half_at (by rw [mixed_len, HL.out]; omega), HX.out] at hcell8; have hfree8 := O8.out.free rfl k; have B8 := Lib.hid ((below_drew HB.out).trans (hb8.mono (below_drew HB.out).size)); clear hb8)
          all_goals
           (have O9 := Lib.hid (show Ow 3 .i64 (w8.setCell ⟨b, k, none⟩ (.int .i64 v)) w.heap.size (w8.setCell ⟨b, k, none⟩ (.int .i64 v)).heap.size _ n cap1 (half (mixed s zs) zs (k + 1)) by have := draw.ow_set O8.out k v HV.out; rw [HN.out] at this; exact this.up)
            have B9 := Lib.hid (B8.out.setCell (p := ⟨b, k, none⟩) HBL.out (.int .i64 v))
            clear hcell8 hfree8 hcell hfree
            go_wp2_with (go_at_call 92; refine (implNext t _).mono ?_; rintro e w10 ⟨rfl, hb⟩; have O10 := Lib.hid (O9.out.below hb).up; have B10 := Lib.hid (B9.out.trans (hb.mono B9.out.size)); clear hb)
            go_roundw
            case rel => exact ⟨k + 1, by go_num, by rw [nth_succ, HT.out], by omega, O10.out, B10.out⟩
            case measure => simp [intOf]; omega)
        · have hlt2 : ¬ (k : Int) < n := by omega
          obtain rfl : k = n := by omega
          go_wp2
          go_ret
          rw [H0.out]
          refine ⟨_, _, _, rfl, ?_, HB.out⟩
          have := HO.out
          rw [half_all (by rw [mixed_len, HL.out]) HL.out] at this
          exact this
    · have H0 := Lib.hid (scr_no (s := s) (l := zs) (fun h => hi1 h.2))
      have HI := Lib.hid (show isb zs = false by simpa using hi1)
      clear h hi1
      go_enter Tryz.func56, Tryz.ntmps56
      go_wp2_with (at_builtin; refine wpList_app _ rfl _ _ 28 rfl 3 i0 _ .i64 Tryz.underlying28 HZ.out.1 HZ.out.2.1 HZ.out.2.2.1 (by rw [HZ.out.2.2.2]; omega) rfl rfl rfl (Ow.empty _ _ _) (HR.out.alloc _) (by omega) (by simp) ?_; intro A1 cap1 w1 ho hb1; have HO := Lib.hid (show Ow 3 .i64 w1 w.heap.size w1.heap.size A1 n cap1 zs by simpa using ho); have HB := Lib.hid (((Below.refl _ _).alloc (Nat.le_refl _) _).trans hb1); clear ho hb1)
      go_wp2_with fail
      (with_reducible refine (isState_yes s H.out _).mono ?_)
      rintro e w2 ⟨rfl, rfl⟩
      go_wp2_with fail
      (with_reducible refine (bits.implIsb zs _ _ A n cap _ (HR.out.below HB.out)).mono ?_)
      rw [HI.out]
      rintro e w2 ⟨rfl, rfl⟩
      go_wp2_with fail
      go_ret
      rw [H0.out]
      exact ⟨_, _, _, rfl, HO.out, HB.out⟩
  · have H := Lib.hid h
    have H0 := Lib.hid (scr_no (s := s) (l := zs) (fun g => h g.1))
    clear h
    go_enter Tryz.func56, Tryz.ntmps56
    go_wp2_with (at_builtin; refine wpList_app _ rfl _ _ 28 rfl 3 i0 _ .i64 Tryz.underlying28 HZ.out.1 HZ.out.2.1 HZ.out.2.2.1 (by rw [HZ.out.2.2.2]; omega) rfl rfl rfl (Ow.empty _ _ _) (HR.out.alloc _) (by omega) (by simp) ?_; intro A1 cap1 w1 ho hb1; have HO := Lib.hid (show Ow 3 .i64 w1 w.heap.size w1.heap.size A1 n cap1 zs by simpa using ho); have HB := Lib.hid (((Below.refl _ _).alloc (Nat.le_refl _) _).trans hb1); clear ho hb1)
    go_wp2_with fail
    (with_reducible refine (isState_no s H.out _).mono ?_)
    rintro e w2 ⟨rfl, rfl⟩
    go_wp2_with fail
    go_ret
    rw [H0.out]
    exact ⟨_, _, _, rfl, HO.out, HB.out⟩
theorem bits_rd_drew {k : IntKind} {w : World} {lo hi n cap : Nat} {A : Option Addr} {zs : List Int} (h : Rd k w lo hi A n cap zs) : Rd k w.drew lo hi A n cap zs := h.same (Nat.le_refl _) fun _ _ _ => rfl
set_option maxRecDepth 100000 in
set_option maxHeartbeats 4000000 in
theorem specScr (s : Int) (zs : List Int) (lo hi : Nat) (A : Option Addr) (n cap : Nat) (w : World) (h : Rd .i64 w lo hi A n cap zs) (hn : n ≤ 67108864) :
    Calls Tryz.prog 44 #[.int .i64 s, .slice A n cap] w (SlPost 3 .i64 w (scr s zs)) := by
  obtain ⟨i0, hi0, hz0, hz1, hz2⟩ := info_parts intInfo
  have hb := h.cap_
  have HL := Lib.hid h.len
  have HR := Lib.hid h
  have HZ := Lib.hid (And.intro hi0 (And.intro hz0 (And.intro hz1 hz2)))
  clear h hi0 hz0 hz1 hz2
  by_cases h : 1 ≤ s ∧ s ≤ 127
  · have H := Lib.hid h
    by_cases hi1 : isb zs = true
    · have H0 := Lib.hid (scr_yes h hi1)
      have HI := Lib.hid hi1
      clear h hi1
      go_enter Tryz.func44, Tryz.ntmps44
      go_wp2_with (at_builtin; refine wpList_app _ rfl _ _ 28 rfl 3 i0 _ .i64 Tryz.underlying28 HZ.out.1 HZ.out.2.1 HZ.out.2.2.1 (by rw [HZ.out.2.2.2]; omega) rfl rfl rfl (Ow.empty _ _ _) (HR.out.alloc _) (by omega) (by simp) ?_; intro A1 cap1 w1 ho hb1; have HO := Lib.hid (show Ow 3 .i64 w1 w.heap.size w1.heap.size A1 n cap1 zs by simpa using ho); have HB := Lib.hid (((Below.refl _ _).alloc (Nat.le_refl _) _).trans hb1); clear ho hb1)
      go_wp2_with fail
      (with_reducible refine (l1In_yes s 1 127 H.out _).mono ?_)
      rintro e w2 ⟨rfl, rfl⟩
      go_wp2_with fail
      (with_reducible refine (bits.specIsb zs _ _ A n cap _ (HR.out.below HB.out)).mono ?_)
      rw [HI.out]
      rintro e w2 ⟨rfl, rfl⟩
      go_wp2_with fail
      go_loopw [0, 6] (fun t i wr => ∃ k : Nat, i = .int .i64 k ∧ t = .int .i64 (nth k s) ∧ k ≤ n ∧ Ow 3 .i64 wr w.heap.size wr.heap.size A1 n cap1 (half (mixed s zs) zs k) ∧ Below w.heap.size w wr) (fun _ i _ => n - (intOf i).toNat)
      case atStart => exact ⟨0, rfl, rfl, by omega, by rw [half_zero]; exact HO.out, HB.out⟩
      case round =>
        clear HO HB
        obtain ⟨k, rfl, rfl, hk, ho, hb⟩ := hrel
        have HO := Lib.hid ho
        have HB := Lib.hid hb
        clear ho hb
        obtain ⟨t, ht⟩ : ∃ t, nth k s = t := ⟨_, rfl⟩
        have HT := Lib.hid ht
        rw [ht]
        clear ht
        by_cases hlt : k < n
        · have hlt2 : (k : Int) < n := by omega
          have HTT := Lib.hid (show 1 ≤ t ∧ t ≤ 127 by rw [← HT.out]; exact nth_in k H.out)
          obtain ⟨b, rfl, hbl⟩ := own_some HO.out (by omega)
          have HBL := Lib.hid hbl
          obtain ⟨b', off, rfl, h1, h2, hcell⟩ := (bits_rd_drew (HR.out.below HB.out)).at_ hlt
          have hcell2 := draw.cell_of (ow_drew HO.out) hlt
          obtain ⟨u, hu⟩ : ∃ u, (half (mixed s zs) zs k).getD k 0 = u := ⟨_, rfl⟩
          rw [hu] at hcell2
          clear hu
          have hfree := (ow_drew HO.out).free rfl k
          obtain ⟨x, hx⟩ : ∃ x, zs.getD k 0 = x := ⟨_, rfl⟩
          obtain ⟨o, hoe⟩ : ∃ o, outp t = o := ⟨_, rfl⟩
          obtain ⟨v, hv⟩ : ∃ v, bits .xor .i64 x o = v := ⟨_, rfl⟩
          have hx01 := bm.isb_getD HI.out k
          have ho01 := outp_in t
          rw [hx] at hcell hx01
          rw [hoe] at ho01
          have HV := Lib.hid (show (Lit.int .i64 v).wf = true by rw [← hv, xor_bit hx01 ho01]; exact WalkArith.wf_i64 (by split <;> omega))
          have HN := Lib.hid (show (half (mixed s zs) zs k).set k v = half (mixed s zs) zs (k + 1) from half_next (mixed_len _ _) (by rw [mixed_len, HL.out]; exact hlt) (by rw [mixed_at _ _ _ (by rw [HL.out]; exact hlt), HT.out, hx, hoe, hv]))
          have HE := Lib.hid hoe
          have HX := Lib.hid hx
          clear hx hoe hx01 ho01 hbl
          go_wp2_with fail
          go_region_with (go_at_call 82; refine (l5Out t HTT.out _).mono ?_; rw [HE.out]; rintro e w8 ⟨rfl, rfl⟩)
          all_goals
           (have O9 := Lib.hid (show Ow 3 .i64 ((wr.setCell ⟨b, k, none⟩ (.int .i64 v)).drew) w.heap.size ((wr.setCell ⟨b, k, none⟩ (.int .i64 v)).drew).heap.size _ n cap1 (half (mixed s zs) zs (k + 1)) by have := draw.ow_set HO.out k v HV.out; rw [HN.out] at this; exact ow_drew this.up)
            have B9 := Lib.hid (below_drew (HB.out.setCell (p := ⟨b, k, none⟩) HBL.out (.int .i64 v)))
            clear hcell hcell2 hfree
            go_wp2_with (go_at_call 83; refine (specNext t _).mono ?_; rintro e w10 ⟨rfl, rfl⟩)
            go_roundw
            case rel => exact ⟨k + 1, by go_num, by rw [nth_succ, HT.out], by omega, O9.out, B9.out⟩
            case measure => simp [intOf]; omega)
        · have hlt2 : ¬ (k : Int) < n := by omega
          obtain rfl : k = n := by omega
          go_wp2
          go_ret
          rw [H0.out]
          refine ⟨_, _, _, rfl, ?_, HB.out⟩
          have := HO.out
          rw [half_all (by rw [mixed_len, HL.out]) HL.out] at this
          exact this
    · have H0 := Lib.hid (scr_no (s := s) (l := zs) (fun h => hi1 h.2))
      have HI := Lib.hid (show isb zs = false by simpa using hi1)
      clear h hi1
      go_enter Tryz.func44, Tryz.ntmps44
      go_wp2_with (at_builtin; refine wpList_app _ rfl _ _ 28 rfl 3 i0 _ .i64 Tryz.underlying28 HZ.out.1 HZ.out.2.1 HZ.out.2.2.1 (by rw [HZ.out.2.2.2]; omega) rfl rfl rfl (Ow.empty _ _ _) (HR.out.alloc _) (by omega) (by simp) ?_; intro A1 cap1 w1 ho hb1; have HO := Lib.hid (show Ow 3 .i64 w1 w.heap.size w1.heap.size A1 n cap1 zs by simpa using ho); have HB := Lib.hid (((Below.refl _ _).alloc (Nat.le_refl _) _).trans hb1); clear ho hb1)
      go_wp2_with fail
      (with_reducible refine (l1In_yes s 1 127 H.out _).mono ?_)
      rintro e w2 ⟨rfl, rfl⟩
      go_wp2_with fail
      (with_reducible refine (bits.specIsb zs _ _ A n cap _ (HR.out.below HB.out)).mono ?_)
      rw [HI.out]
      rintro e w2 ⟨rfl, rfl⟩
      go_wp2_with fail
      go_ret
      rw [H0.out]
      exact ⟨_, _, _, rfl, HO.out, HB.out⟩
  · have H := Lib.hid h
    have H0 := Lib.hid (scr_no (s := s) (l := zs) (fun g => h g.1))
    clear h
    go_enter Tryz.func44, Tryz.ntmps44
    go_wp2_with (at_builtin; refine wpList_app _ rfl _ _ 28 rfl 3 i0 _ .i64 Tryz.underlying28 HZ.out.1 HZ.out.2.1 HZ.out.2.2.1 (by rw [HZ.out.2.2.2]; omega) rfl rfl rfl (Ow.empty _ _ _) (HR.out.alloc _) (by omega) (by simp) ?_; intro A1 cap1 w1 ho hb1; have HO := Lib.hid (show Ow 3 .i64 w1 w.heap.size w1.heap.size A1 n cap1 zs by simpa using ho); have HB := Lib.hid (((Below.refl _ _).alloc (Nat.le_refl _) _).trans hb1); clear ho hb1)
    go_wp2_with fail
    (with_reducible refine (l1In_no s 1 127 H.out _).mono ?_)
    rintro e w2 ⟨rfl, rfl⟩
    go_wp2_with fail
    go_ret
    rw [H0.out]
    exact ⟨_, _, _, rfl, HO.out, HB.out⟩
end Go.Proofs.YtdelpepepbkjmaaGreatDoor.scrs
end

section
namespace Go.Proofs.YtdelpepepbkjmaaGreatDoor.phs
open Go.RowKit sl harn rng phm
set_option linter.unusedVariables false

set_option maxRecDepth 100000 in
set_option maxHeartbeats 4000000 in
theorem encPay (r l s : Int) (zs : List Int) (lo hi : Nat) (A : Option Addr) (n cap : Nat) (w : World) (h : Rd .u8 w lo hi A n cap zs) (hn : n ≤ 1000) :
    Calls Tryz.prog 31 #[.agg #[.int .i64 r, .int .i64 l, .int .i64 s], .slice A n cap] w (SlPost 3 .i64 w (pay r s zs)) := by
  have HR := Lib.hid h
  have HL := Lib.hid h.len
  have hcp := h.cap_
  obtain ⟨W2, hW2⟩ : ∃ x, bits8 s zs = x := ⟨_, rfl⟩
  have HB8 := Lib.hid (show scrm.scr s (bm.btb (crcs.wc zs)) = W2 from hW2)
  have LB8 := Lib.hid (show W2.length ≤ 10000 by rw [← hW2, bits8_len, h.len]; omega)
  have HWD := Lib.hid (show cvm.conv W2 = word s zs by rw [← hW2]; rfl)
  have LWD := Lib.hid (show (word s zs).length ≤ 20000 by rw [word_len, h.len]; omega)
  clear h hW2
  go_enter Tryz.func31, Tryz.ntmps31
  go_wp2_with fail
  generalize hW0 : w.alloc (.cells #[.int .i64 r, .int .i64 l, .int .i64 s] 25) = w0
  have X0 := Lib.hid (show Box w0.drew w.heap.size r l s from (show Box w0 w.heap.size r l s by rw [← hW0]; exact Box.made _ _ _ _))
  have B0 := Lib.hid (show Below w.heap.size w w0.drew from own.below_drew (show Below w.heap.size w w0 by rw [← hW0]; exact below_box _ _))
  clear hW0
  have R0 := Lib.hid (show Rd .u8 w0.drew lo hi A n cap zs from Rd.upto HR.out B0.out HR.out.hi_)
  have k0 := X0.out.c2
  go_region_held3 (fun w' => w'.cell? ⟨w.heap.size, 2, none⟩ = some (.int .i64 s)) (first | exact k0 | exact k1 | exact k2 | exact k3 | exact k4 | go_keep)
    (first
    | (go_at_call 58; refine (crcs.implAppend zs _ _ A n cap _ R0.out (by omega)).mono ?_; rintro e w1 ⟨A1, n1, c1, rfl, ho, hb⟩; have N1 := Lib.hid (show n1 ≤ 1002 by rw [← ho.len, crcs.wc_len, HL.out]; omega); have O1 := Lib.hid ho; have X1 := Lib.hid (X0.out.below hb); have B1 := Lib.hid (B0.out.trans (hb.mono B0.out.size)); have k1 := X1.out.c2; clear ho hb)
    | (go_at_call 57; refine (bits.implBtb (crcs.wc zs) _ _ A1 n1 c1 _ O1.out.rd (by have := N1.out; omega)).mono ?_; rintro e w2 ⟨A2, n2, c2, rfl, ho, hb⟩; have N2 := Lib.hid (show n2 ≤ 8016 by rw [← ho.len, bm.btb_len, crcs.wc_len, HL.out]; omega); have O2 := Lib.hid ho; have X2 := Lib.hid (X1.out.below hb); have B2 := Lib.hid (B1.out.trans (hb.mono B1.out.size)); have k2 := X2.out.c2; clear ho hb)
    | (go_at_call 56; refine (scrs.implScr s (bm.btb (crcs.wc zs)) _ _ A2 n2 c2 _ O2.out.rd (by have := N2.out; omega)).mono ?_; rw [HB8.out]; rintro e w3 ⟨A3, n3, c3, rfl, ho, hb⟩; have N3 := Lib.hid (show n3 ≤ 10000 by rw [← ho.len]; exact LB8.out); have O3 := Lib.hid ho; have X3 := Lib.hid (X2.out.below hb); have B3 := Lib.hid (B2.out.trans (hb.mono B2.out.size)); have k3 := X3.out.c2; clear ho hb)
    | (go_at_call 55; refine (cvs.implCv W2 _ _ A3 n3 c3 _ O3.out.rd (by have := N3.out; omega)).mono ?_; rw [HWD.out]; rintro e w4 ⟨A4, n4, c4, rfl, ho, hb⟩; have O4 := Lib.hid (ho.down (lo2 := w.heap.size) (show w.heap.size ≤ w3.heap.size from B3.out.size)); have X4 := Lib.hid (X3.out.below hb); have B4 := Lib.hid (B3.out.trans (hb.mono B3.out.size)); have k4 := X4.out.c2; clear ho hb))
  have HN4 := Lib.hid (show n4 ≤ 20000 by rw [← O4.out.len]; exact LWD.out)
  have y0 := X4.out.c0
  clear k0 k1 k2 k3 k4 N1 N2 N3 O1 O2 O3 X1 X2 X3 B1 B2 B3 R0
  by_cases h2 : r = 2
  · have HP := Lib.hid (show pay r s zs = itm.itl (cvm.punc (word s zs)) 8 by unfold pay; rw [pun_fast h2])
    subst h2
    go_wp2_with fail
    (with_reducible refine (cvs.implPc (word s zs) _ _ A4 n4 c4 _ O4.out.rd (by have := HN4.out; omega)).mono ?_)
    rintro e w5 ⟨A5, n5, c5, rfl, ho, hb⟩
    have O5 := Lib.hid ho
    have N5 := Lib.hid (show n5 ≤ 20000 by rw [← ho.len, cvm.punc_len]; have := LWD.out; omega)
    have B5 := Lib.hid (B4.out.trans (hb.mono B4.out.size))
    clear ho hb y0
    go_wp2_with fail
    (with_reducible refine (itl.implItl (cvm.punc (word s zs)) 8 _ _ A5 n5 c5 _ O5.out.rd (by have := N5.out; omega)).mono ?_)
    rintro e w6 ⟨A6, n6, c6, rfl, ho, hb⟩
    go_wp2_with fail
    go_ret
    rw [HP.out]
    exact ⟨_, _, _, rfl, ho.down (lo2 := w.heap.size) B5.out.size, B5.out.trans (hb.mono B5.out.size)⟩
  · have HP := Lib.hid (show pay r s zs = itm.itl (word s zs) 8 by unfold pay; rw [pun_slow h2])
    have h3 : (r == 2) = false := by simpa using h2
    go_wp2_with fail
    (with_reducible refine (itl.implItl (word s zs) 8 _ _ A4 n4 c4 _ O4.out.rd (by have := HN4.out; omega)).mono ?_)
    rintro e w6 ⟨A6, n6, c6, rfl, ho, hb⟩
    go_wp2_with fail
    go_ret
    rw [HP.out]
    exact ⟨_, _, _, rfl, ho.down (lo2 := w.heap.size) B4.out.size, B4.out.trans (hb.mono B4.out.size)⟩
set_option maxRecDepth 100000 in
set_option maxHeartbeats 4000000 in
theorem implTx (r l s : Int) (zs : List Int) (lo hi : Nat) (A : Option Addr) (n cap : Nat) (w : World) (h : Rd .u8 w lo hi A n cap zs) (hbig : n ≤ 67108864) :
    Calls Tryz.prog 8 #[.agg #[.int .i64 r, .int .i64 l, .int .i64 s], .slice A n cap] w (SlPost 3 .i64 w (tx r l s zs)) := by
  obtain ⟨i0, hi0, hz0, hz1, hz2⟩ := info_parts intInfo
  have HI0 := Lib.hid (And.intro hi0 (And.intro hz0 (And.intro hz1 hz2)))
  clear hi0 hz0 hz1 hz2
  by_cases hv : Hv r l s
  · have HV := Lib.hid (hv_yes hv)
    by_cases hnl : (n : Int) = l
    · have HE := Lib.hid (show tx r l s zs = enc r l s ++ pay r s zs from tx_yes hv (by rw [h.len]; exact hnl))
      have hn : n ≤ 1000 := by unfold Hv at hv; omega
      have LE := Lib.hid (enc_len hv)
      have LP := Lib.hid (show (pay r s zs).length ≤ 20000 by have := pay_len r s zs; rw [h.len] at this; omega)
      clear hv
      subst hnl
      have HR := Lib.hid h
      have hcp := h.cap_
      clear h
      go_enter Tryz.func8, Tryz.ntmps8
      go_wp2_with fail
      (with_reducible refine (implHv _ _ _ _).mono ?_)
      rw [HV.out]
      rintro e w1 ⟨rfl, hb⟩
      have B1 := Lib.hid (own.below_drew ((below_box w (.cells #[.int .i64 r, .int .i64 n, .int .i64 s] 25)).trans (hb.mono (by simp))))
      have Y1 := Lib.hid ((Box.made w r n s).below hb)
      have X1 := Lib.hid (show Box w1.drew w.heap.size r n s from Y1.out)
      clear hb
      have c0 := Y1.out.c0
      have c1 := Y1.out.c1
      have c2 := Y1.out.c2
      have R1 := Lib.hid (show Rd .u8 w1.drew lo hi A n cap zs from Rd.upto HR.out B1.out HR.out.hi_)
      go_wp2_with fail
      go_region_held3 (fun w' => w'.cell? ⟨w.heap.size, 0, none⟩ = some (.int .i64 r) ∧ w'.cell? ⟨w.heap.size, 1, none⟩ = some (.int .i64 n) ∧ w'.cell? ⟨w.heap.size, 2, none⟩ = some (.int .i64 s)) (first | exact ⟨c0, c1, c2⟩ | exact ⟨k0, k1, k2⟩ | exact ⟨q0, q1, q2⟩ | exact ⟨p0, p1, p2⟩ | go_keep)
        (first
        | (go_at_call 30; refine (implEnc r n s _).mono ?_; rintro e w2 ⟨A2, n2, c2', rfl, ho, hb⟩; have O2 := Lib.hid (ho.down (lo2 := w.heap.size + 1) (show w.heap.size + 1 ≤ w1.heap.size from Y1.out.lt)); have N2 := Lib.hid (show n2 = 54 by rw [← ho.len]; exact LE.out); have X2 := Lib.hid (X1.out.below hb); have B2 := Lib.hid (B1.out.trans (hb.mono B1.out.size)); have R2 := Lib.hid (R1.out.below hb); have k0 := X2.out.c0; have k1 := X2.out.c1; have k2 := X2.out.c2; clear ho hb)
        | (go_at_call 31; refine (encPay r n s zs _ _ A n cap _ R2.out hn).mono ?_; rintro e w3 ⟨A3, n3, c3, rfl, ho, hb⟩; have O3 := Lib.hid ho; have N3 := Lib.hid (show n3 ≤ 20000 by rw [← ho.len]; exact LP.out); have X3 := Lib.hid (X2.out.below hb); have B3 := Lib.hid (B2.out.trans (hb.mono B2.out.size)); have O23 := Lib.hid (O2.out.below hb); have q0 := X3.out.c0; have q1 := X3.out.c1; have q2 := X3.out.c2; clear ho hb)
        | (refine bits.step_app rfl _ _ 28 rfl 3 i0 _ .i64 Tryz.underlying28 HI0.out.1 HI0.out.2.1 HI0.out.2.2.1 (by rw [HI0.out.2.2.2]; omega) rfl rfl rfl O23.out O3.out.rd (by have h1 := N2.out; have h2 := N3.out; omega) (show w.heap.size + 1 ≤ w3.heap.size from X3.out.lt) ?_; intro A4 c4 w4 ho4 hb4; have O4 := Lib.hid ho4; have X4 := Lib.hid (X3.out.up hb4 (Nat.lt_succ_self _)); have B4 := Lib.hid (B3.out.trans (hb4.mono (Nat.le_succ _))); have p0 := X4.out.c0; have p1 := X4.out.c1; have p2 := X4.out.c2; clear ho4 hb4))
      clear c0 c1 c2 k0 k1 k2 q0 q1 q2 p0 p1 p2
      go_wp2_with fail
      go_ret
      rw [HE.out]
      exact ⟨_, _, _, rfl, O4.out.down (lo2 := w.heap.size) (Nat.le_succ _), B4.out⟩
    · have HE := Lib.hid (show tx r l s zs = [] from tx_no fun g => hnl (by rw [← h.len]; exact g.2))
      have hn2 : ((n : Int) == l) = false := by simpa using hnl
      clear hv hnl h
      go_enter Tryz.func8, Tryz.ntmps8
      go_wp2_with fail
      (with_reducible refine (implHv _ _ _ _).mono ?_)
      rw [HV.out]
      rintro e w1 ⟨rfl, hb⟩
      have B1 := Lib.hid ((below_box w (.cells #[.int .i64 r, .int .i64 l, .int .i64 s] 25)).trans (hb.mono (by simp)))
      have X1 := Lib.hid ((Box.made w r l s).below hb)
      have c0 := X1.out.c0
      have c1 := X1.out.c1
      have c2 := X1.out.c2
      clear hb
      go_wp2_with fail
      go_ret
      rw [HE.out]
      exact ⟨_, 0, 0, rfl, ((Ow.empty 3 .i64 w1).down B1.out.size).up, B1.out.alloc B1.out.size _⟩
  · have HV := Lib.hid (hv_no hv)
    have HE := Lib.hid (show tx r l s zs = [] from tx_no fun g => hv g.1)
    clear hv h
    go_enter Tryz.func8, Tryz.ntmps8
    go_wp2_with fail
    (with_reducible refine (implHv _ _ _ _).mono ?_)
    rw [HV.out]
    rintro e w1 ⟨rfl, hb⟩
    have B1 := Lib.hid ((below_box w (.cells #[.int .i64 r, .int .i64 l, .int .i64 s] 25)).trans (hb.mono (by simp)))
    clear hb
    go_wp2_with fail
    go_ret
    rw [HE.out]
    exact ⟨_, 0, 0, rfl, ((Ow.empty 3 .i64 w1).down B1.out.size).up, B1.out.alloc B1.out.size _⟩
set_option maxRecDepth 100000 in
set_option maxHeartbeats 4000000 in
theorem specTx (r l s : Int) (zs : List Int) (lo hi : Nat) (A : Option Addr) (n cap : Nat) (w : World) (h : Rd .u8 w lo hi A n cap zs) (hbig : n ≤ 67108864) :
    Calls Tryz.prog 70 #[.agg #[.int .i64 r, .int .i64 l, .int .i64 s], .slice A n cap] w (SlPost 3 .i64 w (tx r l s zs)) := by
  obtain ⟨i0, hi0, hz0, hz1, hz2⟩ := info_parts intInfo
  have HI0 := Lib.hid (And.intro hi0 (And.intro hz0 (And.intro hz1 hz2)))
  clear hi0 hz0 hz1 hz2
  by_cases hv : Hv r l s
  · have HV := Lib.hid (hv_yes hv)
    by_cases hnl : (n : Int) = l
    · have HE := Lib.hid (show tx r l s zs = enc r l s ++ pay r s zs from tx_yes hv (by rw [h.len]; exact hnl))
      have hn : n ≤ 1000 := by unfold Hv at hv; omega
      have LE := Lib.hid (enc_len hv)
      have LP := Lib.hid (show (pay r s zs).length ≤ 20000 by have := pay_len r s zs; rw [h.len] at this; omega)
      clear hv
      subst hnl
      have HR := Lib.hid h
      have HL := Lib.hid h.len
      have hcp := h.cap_
      obtain ⟨W2, hW2⟩ : ∃ x, bits8 s zs = x := ⟨_, rfl⟩
      have HB8 := Lib.hid (show scrm.scr s (bm.btb (crcs.wc zs)) = W2 from hW2)
      have LB8 := Lib.hid (show W2.length ≤ 10000 by rw [← hW2, bits8_len, h.len]; omega)
      have HWD := Lib.hid (show cvm.conv W2 = word s zs by rw [← hW2]; rfl)
      have LWD := Lib.hid (show (word s zs).length ≤ 20000 by rw [word_len, h.len]; omega)
      clear h hW2
      go_enter Tryz.func70, Tryz.ntmps70
      go_wp2_with fail
      (with_reducible refine (specHv _ _ _ _).mono ?_)
      rw [HV.out]
      rintro e w0 ⟨rfl, hb⟩
      have B0 := Lib.hid (show Below w.heap.size w w0.drew from own.below_drew ((below_box w (.cells #[.int .i64 r, .int .i64 n, .int .i64 s] 25)).trans (hb.mono (by simp))))
      have Y0 := Lib.hid ((Box.made w r n s).below hb)
      have X0 := Lib.hid (show Box w0.drew w.heap.size r n s from Y0.out)
      clear hb
      have y0 := Y0.out.c0
      have y1 := Y0.out.c1
      have y2 := Y0.out.c2
      have R0 := Lib.hid (show Rd .u8 w0.drew lo hi A n cap zs from Rd.upto HR.out B0.out HR.out.hi_)
      have k0 := X0.out.c2
      go_wp2_with fail
      go_region_held3 (fun w' => w'.cell? ⟨w.heap.size, 2, none⟩ = some (.int .i64 s)) (first | exact k0 | exact k1 | exact k2 | exact k3 | exact k4 | go_keep)
        (first
        | (go_at_call 112; refine (crcs.specAppend zs _ _ A n cap _ R0.out (by omega)).mono ?_; rintro e w1 ⟨A1, n1, c1, rfl, ho, hb⟩; have N1 := Lib.hid (show n1 ≤ 1002 by rw [← ho.len, crcs.wc_len, HL.out]; omega); have O1 := Lib.hid ho; have X1 := Lib.hid (X0.out.below hb); have B1 := Lib.hid (B0.out.trans (hb.mono B0.out.size)); have k1 := X1.out.c2; clear ho hb)
        | (go_at_call 111; refine (bits.specBtb (crcs.wc zs) _ _ A1 n1 c1 _ O1.out.rd (by have := N1.out; omega)).mono ?_; rintro e w2 ⟨A2, n2, c2, rfl, ho, hb⟩; have N2 := Lib.hid (show n2 ≤ 8016 by rw [← ho.len, bm.btb_len, crcs.wc_len, HL.out]; omega); have O2 := Lib.hid ho; have X2 := Lib.hid (X1.out.below hb); have B2 := Lib.hid (B1.out.trans (hb.mono B1.out.size)); have k2 := X2.out.c2; clear ho hb)
        | (go_at_call 44; refine (scrs.specScr s (bm.btb (crcs.wc zs)) _ _ A2 n2 c2 _ O2.out.rd (by have := N2.out; omega)).mono ?_; rw [HB8.out]; rintro e w3 ⟨A3, n3, c3, rfl, ho, hb⟩; have N3 := Lib.hid (show n3 ≤ 10000 by rw [← ho.len]; exact LB8.out); have O3 := Lib.hid ho; have X3 := Lib.hid (X2.out.below hb); have B3 := Lib.hid (B2.out.trans (hb.mono B2.out.size)); have k3 := X3.out.c2; clear ho hb)
        | (go_at_call 110; refine (cvs.specCv W2 _ _ A3 n3 c3 _ O3.out.rd (by have := N3.out; omega)).mono ?_; rw [HWD.out]; rintro e w4 ⟨A4, n4, c4, rfl, ho, hb⟩; have O4 := Lib.hid (ho.down (lo2 := w.heap.size) (show w.heap.size ≤ w3.heap.size from B3.out.size)); have X4 := Lib.hid (X3.out.below hb); have B4 := Lib.hid (B3.out.trans (hb.mono B3.out.size)); have k4 := X4.out.c2; clear ho hb))
      have HN4 := Lib.hid (show n4 ≤ 20000 by rw [← O4.out.len]; exact LWD.out)
      clear k0 k1 k2 k3 k4 N1 N2 N3 O1 O2 O3 X1 X2 X3 B1 B2 B3 R0 y0 y1 y2 X0 Y0
      have y0 := X4.out.c0
      have y1 := X4.out.c1
      have y2 := X4.out.c2
      by_cases h2 : r = 2
      · have HP := Lib.hid (show pay r s zs = itm.itl (cvm.punc (word s zs)) 8 by unfold pay; rw [pun_fast h2])
        subst h2
        go_wp2_with fail
        (with_reducible refine (cvs.specPc (word s zs) _ _ A4 n4 c4 _ O4.out.rd (by have := HN4.out; omega)).mono ?_)
        rintro e w5 ⟨A5, n5, c5, rfl, ho, hb⟩
        have O5 := Lib.hid ho
        have N5 := Lib.hid (show n5 ≤ 20000 by rw [← ho.len, cvm.punc_len]; have := LWD.out; omega)
        have B5 := Lib.hid (B4.out.trans (hb.mono B4.out.size))
        have X5 := Lib.hid (X4.out.below hb)
        clear ho hb y0 y1 y2
        have y0 := X5.out.c0
        have y1 := X5.out.c1
        have y2 := X5.out.c2
        go_wp2_with fail
        (with_reducible refine (specEnc 2 n s _).mono ?_)
        rintro e w6 ⟨A6, n6, c6, rfl, ho, hb⟩
        have O6 := Lib.hid ho
        have N6 := Lib.hid (show n6 = 54 by rw [← ho.len]; exact LE.out)
        have B6 := Lib.hid (B5.out.trans (hb.mono B5.out.size))
        have O56 := Lib.hid (O5.out.below hb)
        have S6 := Lib.hid hb.size
        clear ho hb y0 y1 y2
        go_wp2_with fail
        (with_reducible refine (itl.specItl (cvm.punc (word s zs)) 8 _ _ A5 n5 c5 _ O56.out.rd (by have := N5.out; omega)).mono ?_)
        rintro e w7 ⟨A7, n7, c7, rfl, ho, hb⟩
        rw [← HP.out] at ho
        have O7 := Lib.hid ho
        have N7 := Lib.hid (show n7 ≤ 20000 by rw [← ho.len]; exact LP.out)
        have B7 := Lib.hid (B6.out.trans (hb.mono B6.out.size))
        have O67 := Lib.hid (O6.out.below hb)
        have S7 := Lib.hid (show w5.heap.size ≤ w7.heap.size by have h1 := S6.out; have h2 := hb.size; omega)
        clear ho hb
        go_wp2_with (at_builtin; refine wpList_app _ rfl _ _ 28 rfl 3 i0 _ .i64 Tryz.underlying28 HI0.out.1 HI0.out.2.1 HI0.out.2.2.1 (by rw [HI0.out.2.2.2]; omega) rfl rfl rfl O67.out O7.out.rd (by have h1 := N6.out; have h2 := N7.out; omega) S7.out ?_; intro A8 c8 w8 ho8 hb8; have O8 := Lib.hid ho8; have B8 := Lib.hid (B7.out.trans (hb8.mono B5.out.size)); clear ho8 hb8)
        go_ret
        rw [HE.out]
        exact ⟨_, _, _, rfl, O8.out.down (lo2 := w.heap.size) B5.out.size, B8.out⟩
      · have HP := Lib.hid (show pay r s zs = itm.itl (word s zs) 8 by unfold pay; rw [pun_slow h2])
        have h3 : (r == 2) = false := by simpa using h2
        go_wp2_with fail
        (with_reducible refine (specEnc r n s _).mono ?_)
        rintro e w6 ⟨A6, n6, c6, rfl, ho, hb⟩
        have O6 := Lib.hid ho
        have N6 := Lib.hid (show n6 = 54 by rw [← ho.len]; exact LE.out)
        have B6 := Lib.hid (B4.out.trans (hb.mono B4.out.size))
        have O56 := Lib.hid (O4.out.below hb)
        have S6 := Lib.hid hb.size
        clear ho hb y0 y1 y2
        go_wp2_with fail
        (with_reducible refine (itl.specItl (word s zs) 8 _ _ A4 n4 c4 _ O56.out.rd (by have := HN4.out; omega)).mono ?_)
        rintro e w7 ⟨A7, n7, c7, rfl, ho, hb⟩
        rw [← HP.out] at ho
        have O7 := Lib.hid ho
        have N7 := Lib.hid (show n7 ≤ 20000 by rw [← ho.len]; exact LP.out)
        have B7 := Lib.hid (B6.out.trans (hb.mono B6.out.size))
        have O67 := Lib.hid (O6.out.below hb)
        have S7 := Lib.hid (show w4.heap.size ≤ w7.heap.size by have h1 := S6.out; have h2 := hb.size; omega)
        clear ho hb
        go_wp2_with (at_builtin; refine wpList_app _ rfl _ _ 28 rfl 3 i0 _ .i64 Tryz.underlying28 HI0.out.1 HI0.out.2.1 HI0.out.2.2.1 (by rw [HI0.out.2.2.2]; omega) rfl rfl rfl O67.out O7.out.rd (by have h1 := N6.out; have h2 := N7.out; omega) S7.out ?_; intro A8 c8 w8 ho8 hb8; have O8 := Lib.hid ho8; have B8 := Lib.hid (B7.out.trans (hb8.mono B4.out.size)); clear ho8 hb8)
        go_ret
        rw [HE.out]
        exact ⟨_, _, _, rfl, O8.out.down (lo2 := w.heap.size) B4.out.size, B8.out⟩
    · have HE := Lib.hid (show tx r l s zs = [] from tx_no fun g => hnl (by rw [← h.len]; exact g.2))
      have hn2 : ((n : Int) == l) = false := by simpa using hnl
      clear hv hnl h
      go_enter Tryz.func70, Tryz.ntmps70
      go_wp2_with fail
      (with_reducible refine (specHv _ _ _ _).mono ?_)
      rw [HV.out]
      rintro e w1 ⟨rfl, hb⟩
      have B1 := Lib.hid ((below_box w (.cells #[.int .i64 r, .int .i64 l, .int .i64 s] 25)).trans (hb.mono (by simp)))
      have X1 := Lib.hid ((Box.made w r l s).below hb)
      have c0 := X1.out.c0
      have c1 := X1.out.c1
      have c2 := X1.out.c2
      clear hb
      go_wp2_with fail
      go_ret
      rw [HE.out]
      exact ⟨_, 0, 0, rfl, ((Ow.empty 3 .i64 w1).down B1.out.size).up, B1.out.alloc B1.out.size _⟩
  · have HV := Lib.hid (hv_no hv)
    have HE := Lib.hid (show tx r l s zs = [] from tx_no fun g => hv g.1)
    clear hv h
    go_enter Tryz.func70, Tryz.ntmps70
    go_wp2_with fail
    (with_reducible refine (specHv _ _ _ _).mono ?_)
    rw [HV.out]
    rintro e w1 ⟨rfl, hb⟩
    have B1 := Lib.hid ((below_box w (.cells #[.int .i64 r, .int .i64 l, .int .i64 s] 25)).trans (hb.mono (by simp)))
    clear hb
    go_wp2_with fail
    go_ret
    rw [HE.out]
    exact ⟨_, 0, 0, rfl, ((Ow.empty 3 .i64 w1).down B1.out.size).up, B1.out.alloc B1.out.size _⟩
end Go.Proofs.YtdelpepepbkjmaaGreatDoor.phs
end

section

end

section
namespace Go.Proofs.YtdelpepepbkjmaaGreatDoor.asErr
open Go.RowKit Go.Extern.Stop Go.Stop Go.Extern

/-- errors.As(nil, target). -/
theorem as_nil (t : Value) (w : World) :
    Calls Tryz.prog 35 #[.nilIface, t] w fun e w' => e = .returned (.bool false) ∧ w' = w := by
  go_enter Tryz.func35, Tryz.ntmps35
  go_wp2
  go_ret
  exact ⟨rfl, rfl⟩
/-- The error, as its four cells. -/
abbrev badv (a b c d : Int) : Value := .agg #[.int .i64 a, .int .i64 b, .int .i64 c, .int .i64 d]
theorem valueOfP (t : Addr) (w : World) : (ReflectliteValue.unpack (.iface 59 (.pointer (some t)))).run Tryz.prog w
    = .ok (.agg #[.pointer (some ⟨1, 59, none⟩), .pointer (some ⟨w.heap.size, 0, none⟩), .int .u64 150]) (w.alloc (.cells #[.pointer (some t)] 59)) := by kernel_rfl
theorem typeP (a : Addr) (w : World) : (ReflectliteValue.methodAny (ReflectliteValue.valueError "reflectlite.Value.Type" 0) (fun t _ _ _ => ReflectliteType.toType t) #[.agg #[.pointer (some ⟨1, 59, none⟩), .pointer (some a), .int .u64 150]]).run Tryz.prog w
    = .ok (.iface 115 (.agg #[.pointer (some ⟨1, 59, none⟩)])) w := by kernel_rfl
theorem methodKind (h : Value) (w : World) : (Go.method 275 115 (.agg #[h]) "Kind").run Tryz.prog w = .ok (151, h) w := by kernel_rfl
theorem kindP (w : World) : ((ReflectliteType.abiMethod fun t => (fun a : Nat => Value.int IntKind.u8 (a : Int)) <$> Rtype.kind t) #[.pointer (some ⟨1, 59, none⟩)]).run Tryz.prog w = .ok (.int .u8 22) w := by kernel_rfl
theorem kindB (w : World) : ((ReflectliteType.abiMethod fun t => (fun a : Nat => Value.int IntKind.u8 (a : Int)) <$> Rtype.kind t) #[.pointer (some ⟨1, 57, none⟩)]).run Tryz.prog w = .ok (.int .u8 25) w := by kernel_rfl
theorem partsP (a : Addr) (w : World) : (ReflectliteValue.parts (.agg #[.pointer (some ⟨1, 59, none⟩), .pointer (some a), .int .u64 150])).run Tryz.prog w = .ok (some (59, a, 150)) w := by kernel_rfl
/-- (Value).IsNil of a pointer that is not nil. -/
theorem isNilP (a p : Addr) (W : World) (ha : W.cell? a = some (.pointer (some p))) :
    (ReflectliteValue.method (ReflectliteValue.valueError "reflectlite.Value.IsNil" 0) ReflectliteValue.isNil #[.agg #[.pointer (some ⟨1, 59, none⟩), .pointer (some a), .int .u64 150]]).run Tryz.prog W = .ok (.bool false) W := by
  change Sem.run _ (ReflectliteValue.parts (.agg #[.pointer (some ⟨1, 59, none⟩), .pointer (some a), .int .u64 150]) >>= _) _ = _
  simp only [Sem.run_bind, partsP, Result.andThen]
  simp [ReflectliteValue.isNil, loadVar, isAgg, underlying, Tryz.underlying59, ha, Result.andThen]
theorem methodElem (h : Value) (w : World) : (Go.method 275 115 (.agg #[h]) "Elem").run Tryz.prog w = .ok (161, .agg #[h]) w := by kernel_rfl
theorem methodImplements (h : Value) (w : World) : (Go.method 275 115 (.agg #[h]) "Implements").run Tryz.prog w = .ok (162, .agg #[h]) w := by kernel_rfl
theorem methodAssignableTo (h : Value) (w : World) : (Go.method 275 115 (.agg #[h]) "AssignableTo").run Tryz.prog w = .ok (159, .agg #[h]) w := by kernel_rfl
theorem elemP (w : World) : (ReflectliteType.method ReflectliteType.elem #[.agg #[.pointer (some ⟨1, 59, none⟩)]]).run Tryz.prog w = .ok (.iface 115 (.agg #[.pointer (some ⟨1, 57, none⟩)])) w := by kernel_rfl
theorem implementsB (w : World) : (ReflectliteType.relation "Implements" ReflectliteType.implements_ #[.agg #[.pointer (some ⟨1, 57, none⟩)], .iface 115 (.agg #[.pointer (some ⟨1, 53, none⟩)])]).run Tryz.prog w = .ok (.bool true) w := by kernel_rfl
theorem typeOfB (v : Value) (w : World) : (ReflectliteType.typeOf #[.iface 57 v]).run Tryz.prog w = .ok (.iface 115 (.agg #[.pointer (some ⟨1, 57, none⟩)])) w := by kernel_rfl
theorem assignableB (w : World) : (ReflectliteType.relation "AssignableTo" ReflectliteType.assignableTo #[.agg #[.pointer (some ⟨1, 57, none⟩)], .iface 115 (.agg #[.pointer (some ⟨1, 57, none⟩)])]).run Tryz.prog w = .ok (.bool true) w := by kernel_rfl
theorem valueOfB (a b c d : Int) (w : World) : (ReflectliteValue.unpack (.iface 57 (.agg #[.int .i64 a, .int .i64 b, .int .i64 c, .int .i64 d]))).run Tryz.prog w
    = .ok (.agg #[.pointer (some ⟨1, 57, none⟩), .pointer (some ⟨w.heap.size, 0, none⟩), .int .u64 153]) (w.alloc (.cells #[.int .i64 a, .int .i64 b, .int .i64 c, .int .i64 d] 57)) := by kernel_rfl
theorem elemOfP (w : World) : (Rtype.elem? 59).run Tryz.prog w = .ok (some 57) w := by kernel_rfl
theorem mkB (p : Addr) (w : World) : (ReflectliteValue.mk 57 p ReflectliteValue.flagAddr).run Tryz.prog w = .ok (.agg #[.pointer (some ⟨1, 57, none⟩), .pointer (some p), .int .u64 409]) w := by kernel_rfl
/-- (Value).Elem of a pointer that is not nil. -/
theorem elemVP (a p : Addr) (W : World) (ha : W.cell? a = some (.pointer (some p))) :
    (ReflectliteValue.method (ReflectliteValue.valueError "reflectlite.Value.Elem" 0) ReflectliteValue.elem #[.agg #[.pointer (some ⟨1, 59, none⟩), .pointer (some a), .int .u64 150]]).run Tryz.prog W
      = .ok (.agg #[.pointer (some ⟨1, 57, none⟩), .pointer (some p), .int .u64 409]) W := by
  change Sem.run _ (ReflectliteValue.parts (.agg #[.pointer (some ⟨1, 59, none⟩), .pointer (some a), .int .u64 150]) >>= _) _ = _
  simp only [Sem.run_bind, partsP, Result.andThen]
  simp [ReflectliteValue.elem, loadVar, isAgg, underlying, Tryz.underlying59, ha, Result.andThen, elemOfP, mkB]
theorem partsBa (a : Addr) (w : World) : (ReflectliteValue.parts (.agg #[.pointer (some ⟨1, 57, none⟩), .pointer (some a), .int .u64 409])).run Tryz.prog w = .ok (some (57, a, 409)) w := by kernel_rfl
theorem partsB (a : Addr) (w : World) : (ReflectliteValue.parts (.agg #[.pointer (some ⟨1, 57, none⟩), .pointer (some a), .int .u64 153])).run Tryz.prog w = .ok (some (57, a, 153)) w := by kernel_rfl
theorem directB (w : World) : (Rtype.directlyAssignable 57 57).run Tryz.prog w = .ok true w := by kernel_rfl
/-- A row of four cells. -/
def Four (w : World) (g : Nat) (a b c d : Int) : Prop := w.heap[g]? = some (.cells #[.int .i64 a, .int .i64 b, .int .i64 c, .int .i64 d] 57 (0, 0))
/-- (Value).Set: the variable at block g gets what the Value's own variable at block q holds. -/
theorem setB (g q : Nat) (a b c d a' b' c' d' : Int) (W : World) (hq : Four W q a b c d) (hg : Four W g a' b' c' d') :
    (ReflectliteValue.set #[.agg #[.pointer (some ⟨1, 57, none⟩), .pointer (some ⟨g, 0, none⟩), .int .u64 409], .agg #[.pointer (some ⟨1, 57, none⟩), .pointer (some ⟨q, 0, none⟩), .int .u64 153]]).run Tryz.prog W
      = .ok (.tuple #[]) (W.setRow g #[.int .i64 a, .int .i64 b, .int .i64 c, .int .i64 d]) := by
  have hl := run_loadVar_row (P := Tryz.prog) W q _ 57 _ _ _ hq Tryz.underlying57 rfl (by kernel_rfl)
  have hs := run_storeCells_at Tryz.prog g 0 57 [.int .i64 a, .int .i64 b, .int .i64 c, .int .i64 d] 0 _ W hg (by simp) (by intro v hv; simp at hv; rcases hv with rfl | rfl | rfl | rfl <;> rfl)
  change Sem.run _ (ReflectliteValue.parts (.agg #[.pointer (some ⟨1, 57, none⟩), .pointer (some ⟨g, 0, none⟩), .int .u64 409]) >>= fun p => (ReflectliteValue.parts (.agg #[.pointer (some ⟨1, 57, none⟩), .pointer (some ⟨q, 0, none⟩), .int .u64 153]) >>= fun x => _)) _ = _
  simp only [Sem.run_bind, partsBa, partsB, Result.andThen]
  simp [ReflectliteValue.flagAddr, hl, Result.andThen, directB, storeVar, Value.cells]
  rw [hs]
  simp
end Go.Proofs.YtdelpepepbkjmaaGreatDoor.asErr
end

section
namespace Go.Proofs.YtdelpepepbkjmaaGreatDoor.asErr
open Go.RowKit Go.Extern.Stop Go.Stop Go.Extern

/-- Package errors' variable holds the handle of the type error. -/
def Handle (w : World) : Prop := w.cell? ⟨0, 0, none⟩ = some (.iface 115 (.agg #[.pointer (some ⟨1, 53, none⟩)]))
theorem Handle.lt {w : World} (h : Handle w) : 0 < w.heap.size := by
  rcases Nat.lt_or_ge 0 w.heap.size with h' | h'
  · exact h'
  · unfold Handle at h
    simp [World.cell?, Array.getElem?_eq_none h'] at h
theorem Handle.below {w w' : World} (h : Handle w) (hb : Below w.heap.size w w') : Handle w' := (hb.cell h.lt).trans h
theorem Four.lt {w : World} {g : Nat} {a b c d : Int} (h : Four w g a b c d) : g < w.heap.size := lt_of_block h
theorem Four.below {w w' : World} {g : Nat} {a b c d : Int} (h : Four w g a b c d) (hb : Below w.heap.size w w') : Four w' g a b c d := (hb.block g h.lt).trans h
theorem bel1 (w : World) (o : Obj) : Below w.heap.size w (w.alloc o) := (Below.refl _ _).alloc (Nat.le_refl _) _
/-- What is told of a hit. -/
def HitPost (t : Nat) (a b c d : Int) (w : World) (e : Ending) (w' : World) : Prop := e = .returned (.bool true) ∧ Four w' t a b c d ∧ Below t w w'
set_option maxRecDepth 100000 in
set_option maxHeartbeats 4000000 in
theorem as_hit (a b c d a' b' c' d' : Int) (t : Nat) (w : World) (hg : Handle w) (ht : Four w t a' b' c' d') :
    Calls Tryz.prog 35 #[.iface 57 (.agg #[.int .i64 a, .int .i64 b, .int .i64 c, .int .i64 d]), .iface 59 (.pointer (some ⟨t, 0, none⟩))] w (HitPost t a b c d w) := by
  have h6 := @run_callFunc_extern Tryz.prog 66 _ (fun args => ReflectliteValue.unpack (args.getD 0 (.tuple #[]))) Tryz.func66 (by kernel_rfl) (by kernel_rfl) (by kernel_rfl) (by kernel_rfl)
  have h7 := @run_callFunc_extern Tryz.prog 67 _ (ReflectliteValue.methodAny (ReflectliteValue.valueError "reflectlite.Value.Type" 0) (fun t _ _ _ => ReflectliteType.toType t)) Tryz.func67 (by kernel_rfl) (by kernel_rfl) (by kernel_rfl) (by kernel_rfl)
  have h8 := @run_callFunc_extern Tryz.prog 68 _ (ReflectliteValue.method (ReflectliteValue.valueError "reflectlite.Value.IsNil" 0) ReflectliteValue.isNil) Tryz.func68 (by kernel_rfl) (by kernel_rfl) (by kernel_rfl) (by kernel_rfl)
  have h27 := @run_callFunc_extern Tryz.prog 151 _ (ReflectliteType.abiMethod fun t => do pure (.int .u8 (← Rtype.kind t))) Tryz.func151 (by kernel_rfl) (by kernel_rfl) (by kernel_rfl) (by kernel_rfl)
  have h37 := @run_callFunc_extern Tryz.prog 161 _ (ReflectliteType.method ReflectliteType.elem) Tryz.func161 (by kernel_rfl) (by kernel_rfl) (by kernel_rfl) (by kernel_rfl)
  have h38 := @run_callFunc_extern Tryz.prog 162 _ (ReflectliteType.relation "Implements" ReflectliteType.implements_) Tryz.func162 (by kernel_rfl) (by kernel_rfl) (by kernel_rfl) (by kernel_rfl)
  have h10 := @run_callFunc_extern Tryz.prog 107 _ ReflectliteType.typeOf Tryz.func107 (by kernel_rfl) (by kernel_rfl) (by kernel_rfl) (by kernel_rfl)
  have h35 := @run_callFunc_extern Tryz.prog 159 _ (ReflectliteType.relation "AssignableTo" ReflectliteType.assignableTo) Tryz.func159 (by kernel_rfl) (by kernel_rfl) (by kernel_rfl) (by kernel_rfl)
  have h11 := @run_callFunc_extern Tryz.prog 108 _ (ReflectliteValue.method (ReflectliteValue.valueError "reflectlite.Value.Elem" 0) ReflectliteValue.elem) Tryz.func108 (by kernel_rfl) (by kernel_rfl) (by kernel_rfl) (by kernel_rfl)
  have h12 := @run_callFunc_extern Tryz.prog 109 _ ReflectliteValue.set Tryz.func109 (by kernel_rfl) (by kernel_rfl) (by kernel_rfl) (by kernel_rfl)
  have tO := typeOfB
  have mA := methodAssignableTo
  have aB := assignableB
  have vB := valueOfB
  have f6 := valueOfP
  have f7 := typeP
  have mK := methodKind
  have mE := methodElem
  have mI := methodImplements
  have kP := kindP
  have kB := kindB
  have eP := elemP
  have iB := implementsB
  obtain ⟨W1, hW1⟩ : ∃ x, x = w.alloc (.cells #[.pointer (some ⟨t, 0, none⟩)] 59) := ⟨_, rfl⟩
  obtain ⟨W2, hW2⟩ : ∃ x, x = W1.alloc (.cells #[.pointer (some ⟨1, 59, none⟩), .pointer (some ⟨w.heap.size, 0, none⟩), .int .u64 150] 86) := ⟨_, rfl⟩
  obtain ⟨W3, hW3⟩ : ∃ x, x = W2.alloc (.cells #[.pointer (some ⟨1, 59, none⟩), .pointer (some ⟨w.heap.size, 0, none⟩), .int .u64 150] 86) := ⟨_, rfl⟩
  obtain ⟨W4, hW4⟩ : ∃ x, x = W3.alloc (.cells #[.int .i64 a, .int .i64 b, .int .i64 c, .int .i64 d] 57) := ⟨_, rfl⟩
  have B1 : Below w.heap.size w W1 := by rw [hW1]; exact bel1 _ _
  have B2 : Below w.heap.size w W2 := B1.trans ((show Below W1.heap.size W1 W2 by rw [hW2]; exact bel1 _ _).mono B1.size)
  have B3 : Below w.heap.size w W3 := B2.trans ((show Below W2.heap.size W2 W3 by rw [hW3]; exact bel1 _ _).mono B2.size)
  have B4 : Below w.heap.size w W4 := B3.trans ((show Below W3.heap.size W3 W4 by rw [hW4]; exact bel1 _ _).mono B3.size)
  have c1 : W1.cell? ⟨w.heap.size, 0, none⟩ = some (.pointer (some ⟨t, 0, none⟩)) := by rw [hW1]; simp
  have s1 : w.heap.size < W1.heap.size := by rw [hW1]; simp
  have c2 : W2.cell? ⟨w.heap.size, 0, none⟩ = some (.pointer (some ⟨t, 0, none⟩)) := by rw [hW2, World.cell?_alloc_lt _ _ ⟨w.heap.size, 0, none⟩ s1]; exact c1
  have s2 : w.heap.size < W2.heap.size := by rw [hW2]; simp; omega
  have c3 : W3.cell? ⟨w.heap.size, 0, none⟩ = some (.pointer (some ⟨t, 0, none⟩)) := by rw [hW3, World.cell?_alloc_lt _ _ ⟨w.heap.size, 0, none⟩ s2]; exact c2
  have n8 := isNilP ⟨w.heap.size, 0, none⟩ ⟨t, 0, none⟩ W2 c2
  have hg2 : W2.cell? ⟨0, 0, none⟩ = some (.iface 115 (.agg #[.pointer (some ⟨1, 53, none⟩)])) := hg.below B2
  have el := elemVP ⟨w.heap.size, 0, none⟩ ⟨t, 0, none⟩ W3 c3
  have hq3 : W3.heap.size = w.heap.size + 1 + 1 + 1 := by rw [hW3, hW2, hW1]; simp
  have q4 : Four W4 (w.heap.size + 1 + 1 + 1) a b c d := by rw [← hq3, hW4]; exact heap_alloc_new _ _
  have t4 : Four W4 t a' b' c' d' := ht.below B4
  have st := setB t (w.heap.size + 1 + 1 + 1) a b c d a' b' c' d' W4 q4 t4
  have hres : HitPost t a b c d w (.returned (.bool true)) (W4.setRow t #[.int .i64 a, .int .i64 b, .int .i64 c, .int .i64 d]) :=
    ⟨rfl, setRow_heap W4 t _ _ _ _ t4, (B4.mono (Nat.le_of_lt ht.lt)).trans ⟨rfl, rfl, rfl, by simp [World.setRow], fun k hk => setRow_other W4 t k _ (by omega)⟩⟩
  have HRES := Lib.hid hres
  clear hres hq3 q4 t4 B1 B2 B3 B4 c1 c2 c3 s1 s2
  subst hW1
  subst hW2
  subst hW3
  subst hW4
  go_enter Tryz.func35, Tryz.ntmps35
  go_wp2
  refine wp_loop_rounds 1 ?_
  rw [rounds_succ]
  go_wp2
  go_ret
  exact HRES.out
end Go.Proofs.YtdelpepepbkjmaaGreatDoor.asErr
end

section
namespace Go.Proofs.YtdelpepepbkjmaaGreatDoor.cuts
open Go.RowKit sl harn
set_option linter.unusedVariables false
theorem rd_pre {k : IntKind} {w : World} {lo hi n cap : Nat} {A : Option Addr} {zs : List Int} (h : Rd k w lo hi A n cap zs) {j : Nat} (hj : j ≤ n) (A' : Option Addr) (hA : 0 < j → A' = A.map (·.add 0)) : Rd k w lo hi A' j cap (zs.take j) := by
  have := h.cut 0 j cap A' (fun g => hA g) (by omega) hj (by have := h.cap_; omega) (by have := h.2.2.1; omega)
  simpa using this
theorem rd_post {k : IntKind} {w : World} {lo hi n cap : Nat} {A : Option Addr} {zs : List Int} (h : Rd k w lo hi A n cap zs) {j : Nat} (hj : j ≤ n) (A' : Option Addr) (hA : j < n → A' = A.map (·.add j)) : Rd k w lo hi A' (n - j) (cap - j) (zs.drop j) := by
  have := h.cut j n (cap - j) A' hA hj (Nat.le_refl _) (by have := h.cap_; omega) (by have := h.2.2.1; omega)
  rwa [List.take_of_length_le (by rw [List.length_drop, h.len]; exact Nat.le_refl _)] at this
theorem slice_pre {P : Program} (t E : TypeId) (i0 : TypeInfo) (hu : P.underlying t = some (.slice E)) (hi : P.info? E = some i0) (hs : i0.size = 1) (A : Option Addr) (n cap j : Nat) (hj : j ≤ cap) :
    ∃ A', (0 < j → A' = A.map (·.add 0)) ∧ ∀ W, (Instr.slice t (.slice A n cap) none (some (.int .i64 j)) none).run P W = .ok (.slice A' j cap) W := by
  refine ⟨if cap = 0 then A else A.map (·.add (0 * 1)), fun h => ?_, fun W => ?_⟩
  · rw [if_neg (by omega)]
  · have hj2 : (j : Int) ≤ cap := by omega
    simp [Instr.slice, run_underlying hu, Instr.sliceBounds, Instr.sliceBound, sizeOf, typeInfo, hi, go_sem]
    intro h; omega
theorem slice_post {P : Program} (t E : TypeId) (i0 : TypeInfo) (hu : P.underlying t = some (.slice E)) (hi : P.info? E = some i0) (hs : i0.size = 1) (A : Option Addr) (n cap j : Nat) (hj : j ≤ n) (hc : n ≤ cap) :
    ∃ A', (j < n → A' = A.map (·.add j)) ∧ ∀ W, (Instr.slice t (.slice A n cap) (some (.int .i64 j)) none none).run P W = .ok (.slice A' (n - j) (cap - j)) W := by
  refine ⟨if cap = j then A else A.map (·.add (j * 1)), fun h => ?_, fun W => ?_⟩
  · rw [if_neg (by omega), Nat.mul_one]
  · have hj2 : (j : Int) ≤ n := by omega
    simp [Instr.slice, run_underlying hu, Instr.sliceBounds, Instr.sliceBound, sizeOf, typeInfo, hi, hs, go_sem]
    intro h; omega
end Go.Proofs.YtdelpepepbkjmaaGreatDoor.cuts
end

section
namespace Go.Proofs.YtdelpepepbkjmaaGreatDoor.bits
open Go.RowKit sl harn bm rng

def BbPost (zs : List Int) (w : World) (e : Ending) (w' : World) : Prop :=
  ∃ A n cap, e = .returned (.tuple #[.slice A n cap, .bool (bb zs).2]) ∧ Ow 5 .u8 w' w.heap.size w'.heap.size A n cap (bb zs).1 ∧ Below w.heap.size w w'
theorem BbPost.parts {zs ys : List Int} {t : Bool} (ht : bb zs = (ys, t)) {w : World} {e : Ending} {w' : World} (h : BbPost zs w e w') :
    ∃ A n cap, e = .returned (.tuple #[.slice A n cap, .bool t]) ∧ Ow 5 .u8 w' w.heap.size w'.heap.size A n cap ys ∧ Below w.heap.size w w' := by
  unfold BbPost at h; rw [ht] at h; exact h
theorem bb_empty {zs : List Int} (h : bb zs = ([], false)) (w : World) : BbPost zs w (.returned (.tuple #[.slice (some ⟨w.heap.size, 0, none⟩) 0 0, .bool false])) (w.alloc (.cells #[] 5)) := by
  unfold BbPost; rw [h]
  exact ⟨_, _, _, rfl, (Ow.empty _ _ w).up, (Below.refl _ _).alloc (Nat.le_refl _) _⟩
/-- Byte j of the first i bits. -/
def cellOf (zs : List Int) (i j : Nat) : Int := num (((zs.take i).drop (8 * j)).take 8)
theorem cellOf_zero (zs : List Int) (j : Nat) : cellOf zs 0 j = 0 := by simp [cellOf, num]
theorem cellOf_other (zs : List Int) {i j : Nat} (h : j ≠ i / 8) : cellOf zs (i + 1) j = cellOf zs i j := by
  unfold cellOf
  congr 1
  apply List.ext_getElem?
  intro m
  rw [List.getElem?_take, List.getElem?_take, List.getElem?_drop, List.getElem?_drop, List.getElem?_take, List.getElem?_take]
  split
  · split <;> split <;> first | rfl | omega
  · rfl
theorem cellOf_in {zs : List Int} (h : isb zs = true) (i j : Nat) : 0 ≤ cellOf zs i j ∧ cellOf zs i j ≤ 255 := by
  have h1 := num_in (isb_all (isb_sub h (m := ((zs.take i).drop (8 * j)).take 8) fun z hz => List.mem_of_mem_take (List.mem_of_mem_drop (List.mem_of_mem_take hz))))
  have h2 := pow_le (k := (((zs.take i).drop (8 * j)).take 8).length) (m := 8) (by simp; omega)
  unfold cellOf
  omega
theorem cellOf_list (zs : List Int) {q r : Nat} (hr : r ≤ 8) : ((zs.take (8 * q + r)).drop (8 * q)).take 8 = (zs.drop (8 * q)).take r := by
  rw [List.drop_take, List.take_take, show 8 * q + r - 8 * q = r by omega, Nat.min_eq_right hr]
theorem cellOf_step (zs : List Int) {q r : Nat} (hr : r < 8) (h : 8 * q + r < zs.length) : cellOf zs (8 * q + r + 1) q = cellOf zs (8 * q + r) q + zs.getD (8 * q + r) 0 * 2 ^ r := by
  unfold cellOf
  rw [Nat.add_assoc, cellOf_list zs (by omega), cellOf_list zs (by omega), num_take _ (by simp; omega)]
  congr 2
  rw [List.getD_eq_getElem?_getD, List.getD_eq_getElem?_getD, List.getElem?_drop]
theorem cellOf_lt {zs : List Int} (hb : isb zs = true) {q r : Nat} (hr : r < 8) (h : 8 * q + r < zs.length) : 0 ≤ cellOf zs (8 * q + r) q ∧ cellOf zs (8 * q + r) q < 2 ^ r := by
  unfold cellOf
  rw [cellOf_list zs (by omega)]
  have h1 := num_in (isb_all (isb_sub hb (m := (zs.drop (8 * q)).take r) fun z hz => List.mem_of_mem_drop (List.mem_of_mem_take hz)))
  have h2 : ((zs.drop (8 * q)).take r).length = r := by simp; omega
  rwa [h2] at h1
/-- Bytes that are being filled bit by bit. -/
def Fill (w wr : World) (m i : Nat) (zs : List Int) : Prop :=
  ∃ cs, wr.heap[w.heap.size]? = some (.cells cs 5 (0, 0)) ∧ cs.size = m ∧ (∀ j, j < m → cs[j]? = some (.int .u8 (cellOf zs i j))) ∧ Below w.heap.size w wr
theorem made_at (m j : Nat) (h : j < m) : (madeCells (Value.cells (.int .u8 0)) m)[j]? = some (.int .u8 0) := by
  rw [← Array.getElem?_toList, show Value.cells (.int .u8 0) = #[.int .u8 0] from rfl, toList_madeCells_one, List.getElem?_replicate, if_pos h]
theorem Fill.start (w : World) (m : Nat) (zs : List Int) : Fill w (w.alloc (.cells (madeCells (Value.cells (.int .u8 0)) m) 5)) m 0 zs :=
  ⟨_, heap_alloc_new w _, size_madeCells _ m, fun j h => by rw [cellOf_zero, made_at m j h], (Below.refl _ _).alloc (Nat.le_refl _) _⟩
theorem Fill.cell {w wr : World} {m i : Nat} {zs : List Int} (h : Fill w wr m i zs) {j : Nat} (hj : j < m) : wr.cell? ⟨w.heap.size, j, none⟩ = some (.int .u8 (cellOf zs i j)) := by
  obtain ⟨cs, h1, h2, h3, _⟩ := h
  simp [World.cell?, h1, h3 j hj]
theorem Fill.free {w wr : World} {m i : Nat} {zs : List Int} (h : Fill w wr m i zs) (j : Nat) : wr.frozen? ⟨w.heap.size, j, none⟩ = false := by
  obtain ⟨cs, h1, _⟩ := h
  simp [World.frozen?, h1]
theorem fill_below {w wr : World} {m i : Nat} {zs : List Int} (h : Fill w wr m i zs) : Below w.heap.size w wr := by
  obtain ⟨_, _, _, _, h4⟩ := h
  exact h4
theorem Fill.drew {w wr : World} {m i : Nat} {zs : List Int} (h : Fill w wr m i zs) : Fill w wr.drew m i zs := by
  obtain ⟨cs, h1, h2, h3, h4⟩ := h
  exact ⟨cs, h1, h2, h3, below_drew h4⟩
theorem Fill.step {w wr : World} {m i q : Nat} {zs : List Int} (h : Fill w wr m i zs) (hq : q = i / 8) (hm : q < m) {v : Int} (hv : cellOf zs (i + 1) q = v) : Fill w (wr.setCell ⟨w.heap.size, q, none⟩ (.int .u8 v)) m (i + 1) zs := by
  obtain ⟨cs, h1, h2, h3, h4⟩ := h
  refine ⟨cs.setIfInBounds q (.int .u8 v), heap_setCell_same wr w.heap.size q cs _ _ h1, by simpa using h2, fun j hj => ?_, h4.setCell (Nat.le_refl _) _⟩
  by_cases hjq : j = q
  · subst hjq
    rw [Array.getElem?_setIfInBounds_self_of_lt (by omega), hv]
  · rw [Array.getElem?_setIfInBounds_ne (by omega), h3 j hj, cellOf_other zs (by omega)]
theorem Fill.done {w wr : World} {m i : Nat} {zs : List Int} (h : Fill w wr m i zs) (hi : i = 8 * m) (hl : zs.length = 8 * m) (hb : isb zs = true) (hm : m ≤ maxLen) :
    BbPost zs w (.returned (.tuple #[.slice (some ⟨w.heap.size, 0, none⟩) m m, .bool true])) wr := by
  obtain ⟨cs, h1, h2, h3, h4⟩ := h
  have hbb : bb zs = (bytesOf m zs, true) := by rw [bb_yes hb (by omega), show zs.length / 8 = m by omega]
  have hp : Part .u8 5 w wr m m (bytesOf m zs) := ⟨cs, h1, h2, fun j hj => by
    rw [h3 j hj, bytesOf_at m zs j hj, cellOf, hi, ← hl, take_all rfl], h4⟩
  obtain ⟨A, n, c, e, ho, hb2⟩ := hp.done (bytesOf_len m zs) (Wf.of_u8 (bytesOf_in m hb)) hm
  unfold BbPost; rw [hbb]
  injection e with e; injection e with e1 e2 e3; subst e1 e2 e3
  exact ⟨_, _, _, rfl, ho, hb2⟩
theorem or8 {r : Nat} {a x : Int} (ha : 0 ≤ a) (ha2 : a < 2 ^ r) (hx : 0 ≤ x ∧ x ≤ 1) (hr : r < 8) : bits .or .u8 a (wrap64 (x * 2 ^ r) % 256) = a + x * 2 ^ r := by
  obtain ⟨p, rfl⟩ := Int.eq_ofNat_of_zero_le ha
  obtain ⟨q, rfl⟩ := Int.eq_ofNat_of_zero_le hx.1
  have hp : p < 2 ^ r := by exact_mod_cast ha2
  have hk2 : 2 ^ r ≤ 2 ^ 7 := Nat.pow_le_pow_right (by omega) (by omega)
  rw [show ((q : Int) * 2 ^ r) = ((q * 2 ^ r : Nat) : Int) by rw [Int.natCast_mul, Int.natCast_pow, show ((2 : Nat) : Int) = 2 from rfl]]
  have hs : q * 2 ^ r ≤ 128 := by
    have : q = 0 ∨ q = 1 := by omega
    rcases this with rfl | rfl <;> omega
  have e : (p ||| q * 2 ^ r) = p + q * 2 ^ r := by
    have := Nat.two_pow_add_eq_or_of_lt hp q
    rw [Nat.or_comm, Nat.mul_comm q, Nat.add_comm p]
    exact this.symm
  have h3 : p + q * 2 ^ r < 256 := by omega
  generalize hg : q * 2 ^ r = g at *
  rw [IntWalk.wrap64_in g (by omega), show (g : Int) % 256 = g by omega]
  show IntKind.u8.wrap ((BitVec.ofInt 8 (p : Int) ||| BitVec.ofInt 8 (g : Int)).toNat : Int) = _
  rw [BitVec.toNat_or]
  have e1 : (BitVec.ofInt 8 (p : Int)).toNat = p := by rw [BitVec.ofInt_natCast, BitVec.toNat_ofNat]; omega
  have e2 : (BitVec.ofInt 8 (g : Int)).toNat = g := by rw [BitVec.ofInt_natCast, BitVec.toNat_ofNat]; omega
  rw [e1, e2, e, IntWalk.u8_in _ (by omega)]
  omega
theorem cellOf_or {zs : List Int} (hb : isb zs = true) {k : Nat} (hk : k < zs.length) {x y : Int} (hx : zs.getD k 0 = x) (hy : cellOf zs k (k / 8) = y) : cellOf zs (k + 1) (k / 8) = bits .or .u8 y (wrap64 (x * 2 ^ (k % 8)) % 256) := by
  obtain ⟨q, r, hr, hk2⟩ : ∃ q r, r < 8 ∧ k = 8 * q + r := ⟨k / 8, k % 8, by omega, by omega⟩
  have hx01 := isb_getD hb k
  rw [show k % 8 = r by omega]
  rw [show k / 8 = q by omega] at hy ⊢
  subst hk2
  have h2 := cellOf_lt hb hr hk
  rw [hy] at h2
  rw [hx] at hx01
  rw [cellOf_step zs hr hk, hy, hx, or8 h2.1 h2.2 hx01 hr]
set_option maxRecDepth 100000 in
set_option maxHeartbeats 4000000 in
theorem implBb (zs : List Int) (lo hi : Nat) (A : Option Addr) (n cap : Nat) (w : World) (h : Rd .i64 w lo hi A n cap zs) (hn : n ≤ 67108864) :
    Calls Tryz.prog 105 #[.slice A n cap] w (BbPost zs w) := by
  have hb := h.cap_
  have hlen := h.len
  have HR := Lib.hid h
  clear h
  cases hi : isb zs
  · have H0 := Lib.hid (bb_no (l := zs) (fun h => by rw [hi] at h; cases h.1))
    have HI := Lib.hid hi
    clear hi
    go_enter Tryz.func105, Tryz.ntmps105
    go_wp2_with (go_at_call 90; refine (implIsb zs _ _ A n cap _ HR.out).mono ?_; rw [HI.out]; rintro e w1 ⟨rfl, rfl⟩)
    go_ret2
    exact bb_empty H0.out _
  · have HI := Lib.hid hi
    clear hi
    by_cases h8 : n % 8 = 0
    · obtain ⟨m, rfl⟩ : ∃ m, n = 8 * m := ⟨n / 8, by omega⟩
      obtain ⟨i0, hi0, hz0, hz1, hz2⟩ := info_parts u8Info
      have hmk := fun W => run_make1 (P := Tryz.prog) 22 5 i0 _ Tryz.underlying22 hi0 hz0 hz1 m (by omega) (by omega) W
      clear hz2 hz1 hz0 hi0
      go_enter Tryz.func105, Tryz.ntmps105
      go_wp2_with (go_at_call 90; refine (implIsb zs _ _ A _ cap _ HR.out).mono ?_; rw [HI.out]; rintro e w1 ⟨rfl, rfl⟩)
      go_loopw [23] (fun i wr => ∃ k : Nat, i = .int .i64 k ∧ k ≤ 8 * m ∧ Fill w wr m k zs) (fun i _ => 8 * m - (intOf i).toNat)
      case atStart => exact ⟨0, rfl, by omega, Fill.start _ _ _⟩
      case round =>
        obtain ⟨k, rfl, hk, hp⟩ := hrel
        have HP := Lib.hid hp
        clear hp
        by_cases hlt : k < 8 * m
        · have hq : k / 8 < m := by omega
          have hv := HP.out.cell hq
          have hf := HP.out.free (k / 8)
          have hv0 := cellOf_in HI.out k (k / 8)
          obtain ⟨b, off, rfl, h1, h2, hc⟩ := (HR.out.below (fill_below HP.out)).at_ hlt
          have hx01 := isb_getD HI.out k
          obtain ⟨x, hx⟩ : ∃ x, zs.getD k 0 = x := ⟨_, rfl⟩
          obtain ⟨y, hy⟩ : ∃ y, cellOf zs k (k / 8) = y := ⟨_, rfl⟩
          rw [hx] at hc hx01
          rw [hy] at hv hv0
          have hlt2 : (k : Int) < 8 * m := by omega
          have e1 : (k : Int) / 8 < m := by omega
          have HX := Lib.hid (cellOf_or HI.out (by rw [hlen]; exact hlt) hx hy)
          clear hx hy
          go_wp2
          go_region
          go_wp2
          go_roundw
          case rel => exact ⟨k + 1, by go_num, by omega, (HP.out.step rfl hq HX.out).drew⟩
          case measure => simp [intOf]; omega
        · have hlt2 : ¬ (k : Int) < 8 * m := by omega
          go_wp2
          go_ret2
          exact HP.out.done (by omega) hlen HI.out (by unfold maxLen; omega)
    · have H0 := Lib.hid (bb_no (l := zs) (fun h => by omega))
      have h9 : ¬ (n : Int) % 8 = 0 := by omega
      go_enter Tryz.func105, Tryz.ntmps105
      go_wp2_with (go_at_call 90; refine (implIsb zs _ _ A n cap _ HR.out).mono ?_; rw [HI.out]; rintro e w1 ⟨rfl, rfl⟩)
      go_ret2
      exact bb_empty H0.out _
set_option maxRecDepth 100000 in
set_option maxHeartbeats 4000000 in
theorem specBb (zs : List Int) (lo hi : Nat) (A : Option Addr) (n cap : Nat) (w : World) (h : Rd .i64 w lo hi A n cap zs) (hn : n ≤ 67108864) :
    Calls Tryz.prog 43 #[.slice A n cap] w (BbPost zs w) := by
  have hb := h.cap_
  have hlen := h.len
  have HR := Lib.hid h
  clear h
  cases hi : isb zs
  · have H0 := Lib.hid (bb_no (l := zs) (fun h => by rw [hi] at h; cases h.1))
    have HI := Lib.hid hi
    clear hi
    go_enter Tryz.func43, Tryz.ntmps43
    go_wp2_with (go_at_call 81; refine (specIsb zs _ _ A n cap _ (HR.out.alloc _)).mono ?_; rw [HI.out]; rintro e w1 ⟨rfl, rfl⟩)
    go_ret2
    exact bb_empty H0.out _
  · have HI := Lib.hid hi
    clear hi
    by_cases h8 : n % 8 = 0
    · obtain ⟨m, rfl⟩ : ∃ m, n = 8 * m := ⟨n / 8, by omega⟩
      obtain ⟨i0, hi0, hz0, hz1, hz2⟩ := info_parts u8Info
      have HZ := Lib.hid (And.intro hi0 (And.intro hz0 (And.intro hz1 hz2)))
      clear hz2 hz1 hz0 hi0
      go_enter Tryz.func43, Tryz.ntmps43
      go_wp2_with (go_at_call 81; refine (specIsb zs _ _ A _ cap _ (HR.out.alloc _)).mono ?_; rw [HI.out]; rintro e w1 ⟨rfl, rfl⟩)
      go_loopw [4, 5] (fun v i wr => ∃ k : Nat, i = .int .i64 (8 * k) ∧ k ≤ m ∧ Gath 5 .u8 w wr (bytesOf m zs) k v) (fun _ i _ => 8 * m - (intOf i).toNat)
      case atStart => exact ⟨0, rfl, by omega, Gath.start _ _ _ _⟩
      case round =>
        obtain ⟨k, rfl, hk, C, c, rfl, ho, hb⟩ := hrel
        have HO := Lib.hid ho
        have HB := Lib.hid hb
        clear ho hb
        by_cases hlt : k < m
        · obtain ⟨b, off, rfl, h1, h2, hc⟩ := (HR.out.below HB.out).at_ (show 0 < 8 * m by omega)
          have HC := Lib.hid ((HR.out.below HB.out).cut (8 * k) (8 * k + 8) (cap - 8 * k) (some ⟨b, off + 8 * k, none⟩) (fun _ => by simp [Addr.add]) (by omega) (by omega) (by omega) (by unfold maxLen; omega))
          have hx := bytesOf_at m zs k hlt
          have hbt := bti_yes (l := (zs.drop (8 * k)).take 8) (isb_sub HI.out fun z hz => List.mem_of_mem_drop (List.mem_of_mem_take hz)) (by simp; omega)
          have hin := bytesOf_in m HI.out _ (show (bytesOf m zs).getD k 0 ∈ bytesOf m zs by rw [List.getD_eq_getElem?_getD, List.getElem?_eq_getElem (by rw [bytesOf_len]; exact hlt)]; exact List.getElem_mem _)
          have htk := take_one (zs := bytesOf m zs) (k := k) (by rw [bytesOf_len]; exact hlt)
          obtain ⟨x, hxe⟩ : ∃ x, num ((zs.drop (8 * k)).take 8) = x := ⟨_, rfl⟩
          rw [hxe] at hx hbt
          rw [hx] at hin htk
          have HX := Lib.hid htk
          have HBt := Lib.hid hbt
          have HV := Lib.hid (show (Lit.int .u8 x).wf = true from WalkArith.wf_u8 (by omega))
          obtain ⟨hin0, hin1⟩ := hin
          clear hx hbt htk hxe
          have hlt2 : 8 * (k : Int) < 8 * m := by omega
          go_wp2_with fail
          (with_reducible refine (specBti _ lo hi _ 8 _ _ (by have := HC.out; rwa [show 8 * k + 8 - 8 * k = 8 by omega] at this)).mono ?_)
          rw [HBt.out]
          rintro e w1 ⟨rfl, rfl⟩
          go_wp2_with (at_builtin; refine wpList_app _ rfl _ _ 22 rfl 5 i0 _ .u8 Tryz.underlying22 HZ.out.1 HZ.out.2.1 HZ.out.2.2.1 (by rw [HZ.out.2.2.2]; omega) rfl rfl rfl (HO.out.alloc _) (Rd.one .u8 _ _ _ HV.out) (by omega) (by have := HB.out.size; simp; omega) ?_; intro A1 cap1 w1 ho hb1; have HO1 := Lib.hid ho; have HB1 := Lib.hid ((HB.out.alloc HB.out.size _).trans hb1); clear ho hb1)
          go_roundw
          case rel => exact ⟨k + 1, by go_num, by omega, A1, cap1, rfl, by rw [HX.out]; exact HO1.out, HB1.out⟩
          case measure => simp [intOf]; omega
        · have hlt2 : ¬ 8 * (k : Int) < 8 * m := by omega
          obtain rfl : k = m := by omega
          have hbb := Lib.hid (show bb zs = (bytesOf k zs, true) by rw [bb_yes HI.out (by omega), hlen, show 8 * k / 8 = k by omega])
          go_wp2
          go_ret2
          have hz := HO.out
          rw [take_all (bytesOf_len k zs)] at hz
          unfold BbPost; rw [hbb.out]
          exact ⟨_, _, _, rfl, hz, HB.out⟩
    · have H0 := Lib.hid (bb_no (l := zs) (fun h => by omega))
      have h9 : ¬ (n : Int) % 8 = 0 := by omega
      go_enter Tryz.func43, Tryz.ntmps43
      go_wp2_with (go_at_call 81; refine (specIsb zs _ _ A n cap _ (HR.out.alloc _)).mono ?_; rw [HI.out]; rintro e w1 ⟨rfl, rfl⟩)
      go_ret2
      exact bb_empty H0.out _
end Go.Proofs.YtdelpepepbkjmaaGreatDoor.bits
end

section
namespace Go.Proofs.YtdelpepepbkjmaaGreatDoor.harn
open Go.RowKit sl

/-- Block bo is a row of n numbers; from j on they are those of L. -/
def Bk (E : TypeId) (kd : IntKind) (bo : Nat) (w : World) (n j : Nat) (L : List Int) : Prop :=
  ∃ cs, w.heap[bo]? = some (.cells cs E (0, 0)) ∧ cs.size = n ∧ ∀ i, j ≤ i → i < n → cs[i]? = some (.int kd (L.getD i 0))
section
variable {E : TypeId} {kd : IntKind} {bo : Nat} {w w' : World} {n j : Nat} {L : List Int}
theorem Bk.start (E : TypeId) (kd : IntKind) (w : World) (n : Nat) {j : Nat} (hj : n ≤ j) (L : List Int) (z : Array Value) : Bk E kd w.heap.size (w.alloc (.cells (madeCells z n) E)) n j L :=
  ⟨_, heap_alloc_new w _, size_madeCells z n, fun i h1 h2 => absurd h1 (by omega)⟩
theorem Bk.same (h : Bk E kd bo w n j L) (hb : w'.heap[bo]? = w.heap[bo]?) : Bk E kd bo w' n j L := by
  obtain ⟨cs, h1, h2⟩ := h
  exact ⟨cs, by rw [hb]; exact h1, h2⟩
theorem Bk.lt (h : Bk E kd bo w n j L) : bo < w.heap.size := by
  obtain ⟨cs, h1, h2⟩ := h
  exact lt_of_block h1
theorem Bk.alloc (h : Bk E kd bo w n j L) (o : Obj) : Bk E kd bo (w.alloc o) n j L := h.same (Below.heap_alloc _ _ _ h.lt)
theorem Bk.cell (h : Bk E kd bo w n j L) {i : Nat} (hi : i < n) : ∃ v, w.cell? ⟨bo, i, none⟩ = some v := by
  obtain ⟨cs, h1, h2, _⟩ := h
  exact ⟨cs[i]'(by omega), by simp [World.cell?, h1]⟩
theorem Bk.free (h : Bk E kd bo w n j L) (i : Nat) : w.frozen? ⟨bo, i, none⟩ = false := by
  obtain ⟨cs, h1, _⟩ := h
  simp [World.frozen?, h1]
theorem Bk.step (h : Bk E kd bo w n (j + 1) L) (hj : j < n) {v : Int} (hv : L.getD j 0 = v) : Bk E kd bo (w.setCell ⟨bo, j, none⟩ (.int kd v)) n j L := by
  obtain ⟨cs, h1, h2, h3⟩ := h
  refine ⟨cs.setIfInBounds j (.int kd v), heap_setCell_same w bo j cs E _ h1, by simpa using h2, fun i g1 g2 => ?_⟩
  by_cases hij : i = j
  · subst hij
    rw [Array.getElem?_setIfInBounds_self_of_lt (by omega), hv]
  · rw [Array.getElem?_setIfInBounds_ne (by omega)]; exact h3 i (by omega) g2
theorem Bk.skip (h : Bk E kd bo w n (j + 1) L) (hj : n ≤ j) : Bk E kd bo w n j L := by
  obtain ⟨cs, h1, h2, h3⟩ := h
  exact ⟨cs, h1, h2, fun i g1 g2 => absurd g1 (by omega)⟩
theorem Bk.other (h : Bk E kd bo w n j L) {p : Addr} (hp : bo ≠ p.block) (u : Value) : Bk E kd bo (w.setCell p u) n j L := h.same (Below.heap_setCell _ _ _ _ hp)
theorem Bk.done (h : Bk E kd bo w n 0 L) {zs : List Int} (hz : zs.length = n) (he : ∀ i, i < n → zs.getD i 0 = L.getD i 0) (hw : Wf kd zs) (hm : n ≤ maxLen) {lo : Nat} (hl : lo ≤ bo) : Ow E kd w lo w.heap.size (some ⟨bo, 0, none⟩) n n zs := by
  obtain ⟨cs, h1, h2, h3⟩ := h
  have e : cs.toList = zs.map (Value.int kd) := by
    apply List.ext_getElem?
    intro i
    rw [Array.getElem?_toList, List.getElem?_map]
    rcases Nat.lt_or_ge i n with hi | hi
    · rw [h3 i (Nat.zero_le _) hi, ← he i hi, List.getElem?_eq_getElem (show i < zs.length by omega), List.getD_eq_getElem?_getD, List.getElem?_eq_getElem (show i < zs.length by omega)]
      rfl
    · rw [Array.getElem?_eq_none (by omega), List.getElem?_eq_none (by omega)]; rfl
  refine ⟨⟨by simpa using hz, Or.inr ⟨_, n, cs, rfl, hl, h1, Nat.le_refl _, hm, by simpa using h2, ?_⟩⟩, hw, Nat.le_refl _, ?_⟩
  · rw [Nat.mul_one, ← e, List.take_of_length_le (by simp; omega)]
  · intro g o e; injection e with e; injection e with e _; subst e; exact lt_of_block h1
end
end Go.Proofs.YtdelpepepbkjmaaGreatDoor.harn
end

section
namespace Go.Proofs.YtdelpepepbkjmaaGreatDoor.vit
open Go.RowKit sl bm cvm
set_option linter.unusedVariables false

def scost (zs : List Int) (n : Nat) : Nat → Int → Int
  | 0, s => if s = 0 then 0 else -1
  | k + 1, t => if t % 2 = 1 ∧ n ≤ k then -1 else part (scost zs n k) (zs.getD (2 * k) 0) (zs.getD (2 * k + 1) 0) 4 t
theorem scost_in (zs : List Int) (n : Nat) : ∀ (k : Nat) (t : Int), -1 ≤ scost zs n k t ∧ scost zs n k t ≤ 2 * k
  | 0, t => by unfold scost; split <;> omega
  | k + 1, t => by
    have := part_in (x := zs.getD (2 * k) 0) (y := zs.getD (2 * k + 1) 0) (m := 4) (t := t) (scost_in zs n k)
    unfold scost; split <;> omega
theorem scost_low (zs : List Int) (n : Nat) : ∀ (k : Nat), k ≤ n → scost zs n k = cost zs k
  | 0, _ => by funext t; rfl
  | k + 1, h => by
    funext t
    show (if t % 2 = 1 ∧ n ≤ k then -1 else part (scost zs n k) (zs.getD (2 * k) 0) (zs.getD (2 * k + 1) 0) 4 t) = part (cost zs k) _ _ 4 t
    rw [if_neg (by omega), scost_low zs n k (by omega)]
theorem scost_even (zs : List Int) (n : Nat) {t : Int} (h : t % 2 = 0) : scost zs n (n + 1) t = cost zs (n + 1) t := by
  show (if t % 2 = 1 ∧ n ≤ n then -1 else part (scost zs n n) (zs.getD (2 * n) 0) (zs.getD (2 * n + 1) 0) 4 t) = part (cost zs n) _ _ 4 t
  rw [if_neg (by omega), scost_low zs n n (Nat.le_refl _)]
theorem via_congr {c c' : Int → Int} {x y t s : Int} (h : c s = c' s) : via c x y t s = via c' x y t s := by unfold via; rw [h]
theorem part_congr {c c' : Int → Int} {x y t : Int} (h1 : c (t / 2) = c' (t / 2)) (h2 : c (t / 2 + 2) = c' (t / 2 + 2)) (m : Int) : part c x y m t = part c' x y m t := by
  unfold part; rw [via_congr h1, via_congr h2]
theorem from_congr {c c' : Int → Int} {x y t : Int} (h1 : c (t / 2) = c' (t / 2)) (h2 : c (t / 2 + 2) = c' (t / 2 + 2)) (m : Int) : from_ c x y m t = from_ c' x y m t := by
  unfold from_; rw [via_congr h1, via_congr h2]
theorem scost_end (zs : List Int) (n : Nat) : scost zs n (n + 2) 0 = cost zs (n + 2) 0 := by
  show (if (0 : Int) % 2 = 1 ∧ n ≤ n + 1 then -1 else part (scost zs n (n + 1)) (zs.getD (2 * (n + 1)) 0) (zs.getD (2 * (n + 1) + 1) 0) 4 0) = part (cost zs (n + 1)) _ _ 4 0
  rw [if_neg (by omega)]
  exact part_congr (scost_even zs n (by decide)) (scost_even zs n (by decide)) 4
/-- A node of the best path. -/
def On (zs : List Int) (m j : Nat) (t : Int) : Prop := Live zs j t ∧ j ≤ m ∧ ∃ rest, path zs m 0 = path zs j t ++ rest
theorem On.start {zs : List Int} {n : Nat} (hz : zs.length = 2 * (n + 2)) : On zs (n + 2) (n + 2) 0 := ⟨end_live hz, Nat.le_refl _, [], by simp⟩
theorem On.next {zs : List Int} {m j : Nat} {t : Int} (h : On zs m (j + 1) t) : On zs m j (pre zs j t) ∧ (path zs m 0).getD j 0 = t % 2 := by
  obtain ⟨h1, h2, rest, h3⟩ := h
  refine ⟨⟨h1.pre.1, by omega, t % 2 :: rest, ?_⟩, ?_⟩
  · rw [h3]; simp [path]
  · rw [h3]
    show (path zs j _ ++ [t % 2] ++ rest).getD j 0 = _
    rw [List.append_assoc, List.getD_eq_getElem?_getD, List.getElem?_append_right (by rw [path_len]; exact Nat.le_refl _), path_len, Nat.sub_self]
    rfl
theorem On.zero {zs : List Int} {m : Nat} {t : Int} (h : On zs m 0 t) : t = 0 := h.1.zero
theorem On.top {zs : List Int} {n : Nat} {t : Int} (hz : zs.length = 2 * (n + 2)) (h : On zs (n + 2) (n + 2) t) : t = 0 := by
  obtain ⟨h1, h2, rest, h3⟩ := h
  have hl := congrArg List.length h3
  rw [List.length_append, path_len, path_len] at hl
  have : rest = [] := List.eq_nil_of_length_eq_zero (by omega)
  subst this
  rw [List.append_nil] at h3
  have e1 := (path_ok zs (n + 2) 0 (by omega) (end_live hz)).2.1
  have e2 := (path_ok zs (n + 2) t (by omega) h1).2.1
  rw [h3, e2] at e1
  exact e1
theorem On.even {zs : List Int} {n j : Nat} {t : Int} (hz : zs.length = 2 * (n + 2)) (h : On zs (n + 2) (j + 1) t) (hj : n ≤ j) : t % 2 = 0 := by
  have h1 := h.next.2
  have h2 := h.2.1
  rw [path_tail hz, tail_zero _ (by rw [dec_len]; omega)] at h1
  exact h1.symm
theorem dec_at (zs : List Int) {n i : Nat} (h : i < n) : (dec zs n).getD i 0 = (path zs (n + 2) 0).getD i 0 := by
  unfold dec
  rw [List.getD_eq_getElem?_getD, List.getElem?_take, if_pos h, List.getD_eq_getElem?_getD]
/-- What the specification's backtracking meets on the best path. -/
theorem On.spec {zs : List Int} {n i : Nat} {t : Int} (hz : zs.length = 2 * (n + 2)) (h : On zs (n + 2) (i + 1) t) :
    part (scost zs n i) (zs.getD (2 * i) 0) (zs.getD (2 * i + 1) 0) 4 t = scost zs n (i + 1) t ∧ 0 ≤ scost zs n (i + 1) t ∧ from_ (scost zs n i) (zs.getD (2 * i) 0) (zs.getD (2 * i + 1) 0) 4 t = pre zs i t ∧ (i < n ∨ t % 2 = 0) := by
  have hi := h.2.1
  have hc := h.1.2
  have h4 : i < n ∨ t % 2 = 0 := by
    rcases Nat.lt_or_ge i n with g | g
    · exact Or.inl g
    · exact Or.inr (h.even hz g)
  have h1 : scost zs n (i + 1) t = part (scost zs n i) (zs.getD (2 * i) 0) (zs.getD (2 * i + 1) 0) 4 t := by
    show (if t % 2 = 1 ∧ n ≤ i then -1 else _) = _
    rw [if_neg (by omega)]
  have hin : scost zs n i (t / 2) = cost zs i (t / 2) ∧ scost zs n i (t / 2 + 2) = cost zs i (t / 2 + 2) := by
    rcases Nat.lt_or_ge n i with g | g
    · obtain rfl : i = n + 1 := by omega
      obtain rfl := h.top hz
      exact ⟨scost_even zs n (by decide), scost_even zs n (by decide)⟩
    · rw [scost_low zs n i g]; exact ⟨rfl, rfl⟩
  have h2 : scost zs n (i + 1) t = cost zs (i + 1) t := by
    rw [h1, part_congr hin.1 hin.2]; rfl
  exact ⟨h1.symm, by rw [h2]; exact hc, from_congr hin.1 hin.2 4, h4⟩
/-- A row being filled. -/
def nx (zs : List Int) (n k : Nat) (s b t : Int) : Int :=
  if t % 2 = 1 ∧ n ≤ k then -1 else if t % 2 < b then part (scost zs n k) (zs.getD (2 * k) 0) (zs.getD (2 * k + 1) 0) (s + 1) t else part (scost zs n k) (zs.getD (2 * k) 0) (zs.getD (2 * k + 1) 0) s t
theorem nx_start (zs : List Int) (n k : Nat) {t : Int} (h : 0 ≤ t ∧ t ≤ 3) : nx zs n k 0 0 t = -1 := by
  unfold nx; rw [if_neg (show ¬ t % 2 < 0 by omega), part_zero _ _ _ _ h.1, ite_self]
theorem nx_next (zs : List Int) (n k : Nat) (s t : Int) : nx zs n k s 2 t = nx zs n k (s + 1) 0 t := by
  unfold nx; rw [if_pos (show t % 2 < 2 by omega), if_neg (show ¬ t % 2 < 0 by omega)]
theorem nx_end (zs : List Int) (n k : Nat) (t : Int) : nx zs n k 4 0 t = scost zs n (k + 1) t := by
  unfold nx; rw [if_neg (show ¬ t % 2 < 0 by omega)]; rfl
theorem nx_none (zs : List Int) (n k : Nat) {s b t : Int} (ht : 0 ≤ t ∧ t ≤ 3) (hc : scost zs n k s < 0) : nx zs n k s b t = nx zs n k s (b + 1) t := by
  unfold nx; rw [part_none _ _ _ ht hc]; split
  · rfl
  · rw [ite_self, ite_self]
theorem nx_tail (zs : List Int) (n k : Nat) {s t : Int} (hk : n ≤ k) : nx zs n k s 1 t = nx zs n k s 2 t := by
  unfold nx
  by_cases h : t % 2 = 1
  · rw [if_pos ⟨h, hk⟩, if_pos ⟨h, hk⟩]
  · have h0 : ¬ (t % 2 = 1 ∧ n ≤ k) := fun g => h g.1
    have h1 : t % 2 < 1 := by omega
    have h2 : t % 2 < 2 := by omega
    simp only [if_neg h0, if_pos h1, if_pos h2]
theorem nx_at (zs : List Int) (n k : Nat) {s b t : Int} (hs : Sb s b) (ht : t = nst s b) (hf : b = 0 ∨ k < n) : nx zs n k s b t = part (scost zs n k) (zs.getD (2 * k) 0) (zs.getD (2 * k + 1) 0) s t ∧ nx zs n k s (b + 1) t = part (scost zs n k) (zs.getD (2 * k) 0) (zs.getD (2 * k + 1) 0) (s + 1) t := by
  obtain ⟨⟨h0, h3⟩, hb0, hb1⟩ := hs
  have : t % 2 = b := by subst ht; unfold nst; omega
  unfold nx
  rw [if_neg (by omega), if_neg (by omega), if_neg (by omega), if_pos (by omega)]
  exact ⟨rfl, rfl⟩
theorem nx_other (zs : List Int) (n k : Nat) {s b t : Int} (hs : Sb s b) (h : 0 ≤ t ∧ t ≤ 3) (ht : ¬ t = nst s b) : nx zs n k s b t = nx zs n k s (b + 1) t := by
  obtain ⟨⟨h0, h3⟩, hb0, hb1⟩ := hs
  unfold nst at ht
  unfold nx
  by_cases hb : t % 2 = b
  · rw [part_other (m := s) (t := t) _ _ _ h (by omega) (by omega), ite_self, ite_self]
  · simp only [show (t % 2 < b) = (t % 2 < b + 1) from propext (by omega)]
theorem nx_better (zs : List Int) (n k : Nat) {s b d : Int} (hs : Sb s b) (hf : b = 0 ∨ k < n) (hc : 0 ≤ scost zs n k s) (hd : scost zs n k s + bd s b (zs.getD (2 * k) 0) (zs.getD (2 * k + 1) 0) = d)
    (hl : nx zs n k s b (nst s b) < 0 ∨ d < nx zs n k s b (nst s b)) {t : Int} (ht : 0 ≤ t ∧ t ≤ 3) : (if t = nst s b then d else nx zs n k s b t) = nx zs n k s (b + 1) t := by
  by_cases e : t = nst s b
  · rw [if_pos e, (nx_at zs n k hs e hf).2, (part_better _ _ _ e hs hc hd (by rw [← (nx_at zs n k hs e hf).1, e]; exact hl)).1]
  · rw [if_neg e]; exact nx_other zs n k hs ht e
theorem nx_worse (zs : List Int) (n k : Nat) {s b d : Int} (hs : Sb s b) (hf : b = 0 ∨ k < n) (hc : 0 ≤ scost zs n k s) (hd : scost zs n k s + bd s b (zs.getD (2 * k) 0) (zs.getD (2 * k + 1) 0) = d)
    (hl : ¬ (nx zs n k s b (nst s b) < 0 ∨ d < nx zs n k s b (nst s b))) {t : Int} (ht : 0 ≤ t ∧ t ≤ 3) : nx zs n k s b t = nx zs n k s (b + 1) t := by
  by_cases e : t = nst s b
  · rw [(nx_at zs n k hs e hf).2, (nx_at zs n k hs e hf).1, (part_worse _ _ _ e hs hc hd (by rw [← (nx_at zs n k hs e hf).1, e]; exact hl)).1]
  · exact nx_other zs n k hs ht e
theorem nx_in (zs : List Int) (n k : Nat) (s b t : Int) : -1 ≤ nx zs n k s b t ∧ nx zs n k s b t ≤ 2 * k + 2 := by
  have h1 := part_in (x := zs.getD (2 * k) 0) (y := zs.getD (2 * k + 1) 0) (m := s) (t := t) (scost_in zs n k)
  have h2 := part_in (x := zs.getD (2 * k) 0) (y := zs.getD (2 * k + 1) 0) (m := s + 1) (t := t) (scost_in zs n k)
  unfold nx; split <;> (try split) <;> omega
/-- Ahead of the chosen state no other one fits. -/
theorem from_first {f : Int → Int} {x y t C s : Int} (h : 0 ≤ t ∧ t ≤ 3) (hC : part f x y 4 t = C) (h0 : 0 ≤ C) (hs0 : 0 ≤ s) (hs : s < from_ f x y 4 t) (hn : nst s (t % 2) = t) : f s < 0 ∨ ¬ f s + bd s (t % 2) x y = C := by
  rw [part_wide f x y t h] at hC
  rw [from_wide f x y t h] at hs
  unfold comb at hC
  have hs2 : s = t / 2 ∨ s = t / 2 + 2 := by unfold nst at hn; split at hs <;> omega
  by_cases hq : 0 ≤ via f x y t (t / 2 + 2) ∧ (via f x y t (t / 2) < 0 ∨ via f x y t (t / 2 + 2) < via f x y t (t / 2))
  · rw [if_pos hq] at hC hs
    obtain rfl : s = t / 2 := by omega
    by_cases hf : f (t / 2) < 0
    · exact Or.inl hf
    · right
      rw [← via_pos (c := f) (x := x) (y := y) (t := t) (s := t / 2) (by omega)]
      rcases hq.2 with g | g <;> omega
  · rw [if_neg hq] at hs
    omega
end Go.Proofs.YtdelpepepbkjmaaGreatDoor.vit
end
