/- The index of an interleaver, program and specification: a struct with methods, one of them handed on as a method value. Condition: none. -/
import Derived.Test.YtdelpepepbkjmaaRng
import Derived.Test.YtdelpepepbkjmaaItm
import Derived.Deep.RegionWith
namespace Go.Proofs.Ytdelpepepbkjmaa.itl
open Go.RowKit sl harn rng itm

theorem isValid_yes (n c : Nat) (hc : 1 ≤ c ∧ c ≤ 64) (hn : n ≤ 10000) (w : World) :
    Calls Try.prog 104 #[.agg #[.int .i64 n, .int .i64 c]] w fun e w' => e = .returned (.bool true) ∧ Below w.heap.size w w' := by
  have H1 := Lib.hid (show 1 ≤ (c : Int) ∧ (c : Int) ≤ 64 by omega)
  have H2 := Lib.hid (show 0 ≤ (n : Int) ∧ (n : Int) ≤ 10000 by omega)
  clear hc hn
  go_enter Try.func104, Try.ntmps104
  go_wp2_with fail
  (with_reducible refine (inRange_yes c 1 64 H1.out _).mono ?_)
  rintro e w1 ⟨rfl, rfl⟩
  go_wp2_with fail
  (with_reducible refine (inRange_yes n 0 10000 H2.out _).mono ?_)
  rintro e w1 ⟨rfl, rfl⟩
  go_wp2_with fail
  go_ret
  exact ⟨rfl, (Below.refl _ _).alloc (Nat.le_refl _) _⟩
theorem isValid_no (n c : Int) (h : ¬ Ok n c) (w : World) :
    Calls Try.prog 104 #[.agg #[.int .i64 n, .int .i64 c]] w fun e w' => e = .returned (.bool false) ∧ Below w.heap.size w w' := by
  by_cases h1 : 1 ≤ c ∧ c ≤ 64
  · have H1 := Lib.hid h1
    have H2 := Lib.hid (show ¬ (0 ≤ n ∧ n ≤ 10000) from fun g => h ⟨h1, g⟩)
    clear h h1
    go_enter Try.func104, Try.ntmps104
    go_wp2_with fail
    (with_reducible refine (inRange_yes c 1 64 H1.out _).mono ?_)
    rintro e w1 ⟨rfl, rfl⟩
    go_wp2_with fail
    (with_reducible refine (inRange_no n 0 10000 H2.out _).mono ?_)
    rintro e w1 ⟨rfl, rfl⟩
    go_wp2_with fail
    go_ret
    exact ⟨rfl, (Below.refl _ _).alloc (Nat.le_refl _) _⟩
  · have H1 := Lib.hid h1
    clear h h1
    go_enter Try.func104, Try.ntmps104
    go_wp2_with fail
    (with_reducible refine (inRange_no c 1 64 H1.out _).mono ?_)
    rintro e w1 ⟨rfl, rfl⟩
    go_wp2_with fail
    go_ret
    exact ⟨rfl, (Below.refl _ _).alloc (Nat.le_refl _) _⟩
theorem ok_yes (n c : Int) (h : Ok n c) (w : World) :
    Calls Try.prog 75 #[.int .i64 n, .int .i64 c] w fun e w' => e = .returned (.bool true) ∧ w = w' := by
  have H1 := Lib.hid h.1
  have H2 := Lib.hid h.2
  clear h
  go_enter Try.func75, Try.ntmps75
  go_wp2_with fail
  (with_reducible refine (l1In_yes c 1 64 H1.out _).mono ?_)
  rintro e w1 ⟨rfl, rfl⟩
  go_wp2_with fail
  (with_reducible refine (l1In_yes n 0 10000 H2.out _).mono ?_)
  rintro e w1 ⟨rfl, rfl⟩
  go_wp2_with fail
  go_ret
  exact ⟨rfl, rfl⟩
theorem ok_no (n c : Int) (h : ¬ Ok n c) (w : World) :
    Calls Try.prog 75 #[.int .i64 n, .int .i64 c] w fun e w' => e = .returned (.bool false) ∧ w = w' := by
  by_cases h1 : 1 ≤ c ∧ c ≤ 64
  · have H1 := Lib.hid h1
    have H2 := Lib.hid (show ¬ (0 ≤ n ∧ n ≤ 10000) from fun g => h ⟨h1, g⟩)
    clear h h1
    go_enter Try.func75, Try.ntmps75
    go_wp2_with fail
    (with_reducible refine (l1In_yes c 1 64 H1.out _).mono ?_)
    rintro e w1 ⟨rfl, rfl⟩
    go_wp2_with fail
    (with_reducible refine (l1In_no n 0 10000 H2.out _).mono ?_)
    rintro e w1 ⟨rfl, rfl⟩
    go_wp2_with fail
    go_ret
    exact ⟨rfl, rfl⟩
  · have H1 := Lib.hid h1
    clear h h1
    go_enter Try.func75, Try.ntmps75
    go_wp2_with fail
    (with_reducible refine (l1In_no c 1 64 H1.out _).mono ?_)
    rintro e w1 ⟨rfl, rfl⟩
    go_wp2_with fail
    go_ret
    exact ⟨rfl, rfl⟩

/-- The parts of a position, as the walks meet them. -/
theorem parts {n c i : Nat} (hc : 1 ≤ c ∧ c ≤ 64) (hn : n ≤ 10000) (hi : i < n) :
    ∃ q r row col p m s : Nat, (n : Int) / c = q ∧ (n : Int).tdiv c = q ∧ (n : Int) % c = r ∧ (n : Int).tmod c = r ∧ (i : Int) / c = row ∧ (i : Int).tdiv c = row ∧ (i : Int) % c = col ∧ (i : Int).tmod c = col ∧
      (col : Int) * q = p ∧ (m : Int) = (if (r : Int) < col then (r : Int) else col) ∧ (p : Int) + m = s ∧ (s : Int) + row = pos n c i ∧ q ≤ 10000 ∧ r ≤ 64 ∧ row ≤ 10000 ∧ col ≤ 64 ∧ p ≤ 10000 ∧ m ≤ 64 ∧ s ≤ 10064 ∧ pos n c i ≤ 9999 := by
  have h1 := Nat.mod_lt i (show 0 < c by omega)
  have h2 := Nat.mod_lt n (show 0 < c by omega)
  have hp := pos_lt (c := c) (by omega) hi
  have e : pos n c i = (i % c) * (n / c) + min (i % c) (n % c) + i / c := rfl
  refine ⟨n / c, n % c, i / c, i % c, (i % c) * (n / c), min (i % c) (n % c), (i % c) * (n / c) + min (i % c) (n % c), by rw [Int.natCast_ediv], by rw [Int.tdiv_eq_ediv_of_nonneg (by omega), Int.natCast_ediv], by rw [Int.natCast_emod], by rw [Int.tmod_eq_emod_of_nonneg (by omega), Int.natCast_emod],
    by rw [Int.natCast_ediv], by rw [Int.tdiv_eq_ediv_of_nonneg (by omega), Int.natCast_ediv], by rw [Int.natCast_emod], by rw [Int.tmod_eq_emod_of_nonneg (by omega), Int.natCast_emod], by rw [Int.natCast_mul], ?_, by rw [Int.natCast_add], by rw [e, ← Int.natCast_add],
    Nat.le_trans (Nat.div_le_self _ _) hn, by omega, Nat.le_trans (Nat.div_le_self _ _) (by omega), by omega, ?_, by omega, ?_, by omega⟩
  rotate_left
  · rw [e] at hp
    generalize (i % c) * (n / c) = a at *
    generalize i / c = b at *
    omega
  · rw [e] at hp
    generalize (i % c) * (n / c) = a at *
    generalize i / c = b at *
    omega
  generalize i % c = a at *
  generalize n % c = b at *
  split <;> omega

theorem boxed {w w1 : World} {o : Obj} {m : Nat} (hb : Below ((w.alloc o).drewN m).heap.size ((w.alloc o).drewN m) w1) : Below w.heap.size w w1 :=
  (((Below.refl w.heap.size w).alloc (Nat.le_refl _) o).trans (show Below w.heap.size (w.alloc o) ((w.alloc o).drewN m) from ⟨rfl, rfl, rfl, Nat.le_refl _, fun _ _ => rfl⟩)).trans (hb.mono (by show w.heap.size ≤ (w.alloc o).heap.size; simp))
set_option maxRecDepth 100000 in
theorem position (n c i : Nat) (hc : 1 ≤ c ∧ c ≤ 64) (hn : n ≤ 10000) (hi : i < n) (w : World) :
    Calls Try.prog 105 #[.agg #[.int .i64 n, .int .i64 c], .int .i64 i] w fun e w' => e = .returned (.int .i64 (pos n c i : Nat)) ∧ Below w.heap.size w w' := by
  obtain ⟨q, r, row, col, p, m, s, h1, h2, h3, h4, h5, h6, h7, h8, h9, h10, h11, h12, h13, h14, h15, h16, h17, h18, h20, h19⟩ := parts hc hn hi
  have hcz2 : ((c : Int) == 0) = false := by
    have : ¬ (c : Int) = 0 := by omega
    simpa using this
  have hc1 : (c : Int) ≤ 64 := by omega
  have hc0 : 1 ≤ (c : Int) := by omega
  have HM := Lib.hid h10
  obtain ⟨z, hz⟩ : ∃ z, pos n c i = z := ⟨_, rfl⟩
  rw [hz] at h12 h19
  rw [hz]
  clear h10 hc hi hn hz
  go_enter Try.func105, Try.ntmps105
  go_wp2
  go_quiet (fail)
  go_wp2
  go_quiet (fail)
  go_wp2_with fail
  (with_reducible refine (implMin col r m HM.out _).mono ?_)
  rintro e w1 ⟨rfl, hb⟩
  have HB := Lib.hid (boxed hb)
  clear hb h1 h2 h3 h4 h5 h6 h7 h8 h9 h13 h14 h16
  go_wp2_with fail
  go_ret
  exact ⟨rfl, HB.out⟩
/-- The index function, and that there is one. -/
def FunPost (n c : Nat) (w : World) (e : Ending) (w' : World) : Prop :=
  e = .returned (.tuple #[.func (.func 105) #[.agg #[.int .i64 n, .int .i64 c]] #[], .bool true]) ∧ Below w.heap.size w w'
theorem fun_yes (n c : Nat) (hc : 1 ≤ c ∧ c ≤ 64) (hn : n ≤ 10000) (w : World) :
    Calls Try.prog 98 #[.int .i64 n, .int .i64 c] w (FunPost n c w) := by
  have H := Lib.hid (And.intro hc hn)
  clear hc hn
  go_enter Try.func98, Try.ntmps98
  go_wp2_with fail
  (with_reducible refine (isValid_yes n c H.out.1 H.out.2 _).mono ?_)
  rintro e w1 ⟨rfl, hb⟩
  have HB := Lib.hid (((Below.refl w.heap.size w).alloc (Nat.le_refl _) _).trans (hb.mono (by simp)))
  have hc0 := hb.block w.heap.size (by simp)
  have c0 : w1.heap[w.heap.size]? = some (.cells #[.int .i64 n, .int .i64 c] 88 (0, 0)) := hc0.trans (heap_alloc_new w _)
  have c1 : w1.cell? ⟨w.heap.size, 0, none⟩ = some (.int .i64 n) := by simp [World.cell?, c0]
  have c2 : w1.cell? ⟨w.heap.size, 1, none⟩ = some (.int .i64 c) := by simp [World.cell?, c0]
  clear hb hc0 c0
  go_wp2_with fail
  go_ret2
  exact ⟨rfl, HB.out⟩
theorem fun_no (n c : Int) (h : ¬ Ok n c) (w : World) :
    Calls Try.prog 98 #[.int .i64 n, .int .i64 c] w fun e w' => e = .returned (.tuple #[Value.nilFunc, .bool false]) ∧ Below w.heap.size w w' := by
  have H := Lib.hid h
  clear h
  go_enter Try.func98, Try.ntmps98
  go_wp2_with fail
  (with_reducible refine (isValid_no n c H.out _).mono ?_)
  rintro e w1 ⟨rfl, hb⟩
  have HB := Lib.hid (((Below.refl w.heap.size w).alloc (Nat.le_refl _) _).trans (hb.mono (by simp)))
  clear hb
  go_wp2_with fail
  go_ret2
  exact ⟨rfl, HB.out⟩

/-- The specification draws, and does no more. -/
def IdxPost (n c i : Int) (w : World) (e : Ending) (w' : World) : Prop := e = .returned (.int .i64 (idx n c i)) ∧ ∃ m, w' = w.drewN m
theorem drewN_zero (w : World) : w = w.drewN 0 := rfl
set_option maxRecDepth 100000 in
theorem specIdx (n c i : Int) (w : World) :
    Calls Try.prog 76 #[.int .i64 n, .int .i64 c, .int .i64 i] w (IdxPost n c i w) := by
  by_cases h : Ok n c
  · have HO := Lib.hid h
    obtain ⟨a, b, rfl, rfl, h1, h2, h3⟩ := h.nats
    by_cases hi : 0 ≤ i ∧ i ≤ (a : Int) - 1
    · obtain ⟨k, rfl⟩ := Int.eq_ofNat_of_zero_le hi.1
      have HX := Lib.hid (idx_yes (i := k) ⟨h1, h2⟩ h3 (by omega))
      have HI := Lib.hid hi
      obtain ⟨q, r, row, col, p, m, s, g1, g2, g3, g4, g5, g6, g7, g8, g9, g10, g11, g12, g13, g14, g15, g16, g17, g18, g20, g19⟩ := parts ⟨h1, h2⟩ h3 (show k < a by omega)
      have hcz2 : ((b : Int) == 0) = false := by
        have : ¬ (b : Int) = 0 := by omega
        simpa using this
      have hc1 : (b : Int) ≤ 64 := by omega
      have hc0 : 1 ≤ (b : Int) := by omega
      have HM := Lib.hid (fun W => (specMin col r m g10 W).mono (fun _ _ ⟨q1, q2⟩ => ⟨q1, q2.symm⟩) : ∀ W, Calls Try.prog 89 #[.int .i64 col, .int .i64 r] W fun e w' => e = .returned (.int .i64 m) ∧ w' = W)
      obtain ⟨z, hz⟩ : ∃ z, pos a b k = z := ⟨_, rfl⟩
      rw [hz] at g12 g19 HX
      have k1 : IntKind.i64.wrap (p : Int) = p := IntWalk.i64_in _ (by omega)
      have k2 : IntKind.i64.wrap (s : Int) = s := IntWalk.i64_in _ (by omega)
      have k3 : IntKind.i64.wrap (z : Int) = z := IntWalk.i64_in _ (by omega)
      clear g10 h hi h1 h2 hz
      go_enter Try.func76, Try.ntmps76
      go_wp2_with fail
      (with_reducible refine (ok_yes a b HO.out _).mono ?_)
      rintro e w1 ⟨rfl, rfl⟩
      go_wp2_with fail
      (with_reducible refine (l1In_yes k 0 ((a : Int) - 1) HI.out _).mono ?_)
      rintro e w1 ⟨rfl, rfl⟩
      go_wp2_with fail
      go_quiet ((go_at_call 89; exact Calls.quiet_of_same (HM.out _)))
      go_wp2_with fail
      go_ret
      exact ⟨by rw [HX.out]; rfl, _, rfl⟩
    · have HX := Lib.hid (idx_no (n := a) (c := b) (i := i) (fun g => hi g.2))
      have HI := Lib.hid hi
      clear h hi h1 h2
      go_enter Try.func76, Try.ntmps76
      go_wp2_with fail
      (with_reducible refine (ok_yes a b HO.out _).mono ?_)
      rintro e w1 ⟨rfl, rfl⟩
      go_wp2_with fail
      (with_reducible refine (l1In_no i 0 ((a : Int) - 1) HI.out _).mono ?_)
      rintro e w2 ⟨rfl, rfl⟩
      go_wp2_with fail
      go_ret
      exact ⟨by rw [HX.out]; rfl, _, drewN_zero _⟩
  · have HX := Lib.hid (idx_no (i := i) (fun g => h g.1))
    have H := Lib.hid h
    clear h
    go_enter Try.func76, Try.ntmps76
    go_wp2_with fail
    (with_reducible refine (ok_no n c H.out _).mono ?_)
    rintro e w1 ⟨rfl, rfl⟩
    go_wp2_with fail
    go_ret
    exact ⟨by rw [HX.out]; rfl, _, drewN_zero _⟩
end Go.Proofs.Ytdelpepepbkjmaa.itl
