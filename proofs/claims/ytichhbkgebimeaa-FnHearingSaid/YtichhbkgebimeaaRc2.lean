/- Comparison, search, the nearest of several, disturbance: the program's and the library's functions at integers. Condition: none. -/
import Derived.Test.YtichhbkgebimeaaRc1
namespace Go.Proofs.Ytichhbkgebimeaa.bx
open Go.RowKit sl harn rng plm rfm
set_option linter.unusedVariables false

/-- Less, equal or greater. -/
def cmp3 (x y : Int) : Int := if x < y then -1 else if x = y then 0 else 1
theorem cmp3_neg {x y : Int} : decide (cmp3 x y < 0) = decide (x < y) := by
  unfold cmp3
  split
  · rename_i h; exact decide_eq_decide.2 ⟨fun _ => h, fun _ => by omega⟩
  · rename_i h; split <;> exact decide_eq_decide.2 ⟨fun h2 => by omega, fun h2 => absurd h2 h⟩
theorem nanI (x : Int) (w : World) : Calls Try.prog 66 #[.int .i64 x] w fun e w' => e = .returned (.bool false) ∧ w = w' := by
  go_enter Try.func66, Try.ntmps66
  go_wp2
  go_ret
  exact ⟨by simp, rfl⟩
theorem cmpI (x y : Int) (w : World) : Calls Try.prog 63 #[.int .i64 x, .int .i64 y] w fun e w' => e = .returned (.int .i64 (cmp3 x y)) ∧ w = w' := by
  obtain ⟨v, hv⟩ : ∃ v, cmp3 x y = v := ⟨_, rfl⟩
  rw [hv]
  have HV := Lib.hid hv
  clear hv
  rcases Int.lt_trichotomy x y with h | h | h
  · have h0 : v = -1 := by rw [← HV.out]; unfold cmp3; rw [if_pos h]
    subst h0
    clear HV
    go_enter Try.func63, Try.ntmps63
    go_wp2_with (go_at_call 66; refine (nanI _ _).mono ?_; rintro e w1 ⟨rfl, rfl⟩)
    go_ret
    exact ⟨rfl, rfl⟩
  · have h0 : v = 0 := by rw [← HV.out]; unfold cmp3; rw [if_neg (by omega), if_pos h]
    subst h0
    have h1 : ¬ x < y := by omega
    have h2 : ¬ y < x := by omega
    clear HV h
    go_enter Try.func63, Try.ntmps63
    go_wp2_with (go_at_call 66; refine (nanI _ _).mono ?_; rintro e w1 ⟨rfl, rfl⟩)
    go_ret
    exact ⟨rfl, rfl⟩
  · have h0 : v = 1 := by rw [← HV.out]; unfold cmp3; rw [if_neg (by omega), if_neg (by omega)]
    subst h0
    have h1 : ¬ x < y := by omega
    clear HV
    go_enter Try.func63, Try.ntmps63
    go_wp2_with (go_at_call 66; refine (nanI _ _).mono ?_; rintro e w1 ⟨rfl, rfl⟩)
    go_ret
    exact ⟨rfl, rfl⟩
theorem none_yet {l : List Int} {k : Nat} {x y : Int} (h : ∀ j, j < k → l.getD j 0 ≠ x) (hy : l.getD k 0 = y) (hn : ¬ y = x) : ∀ j, j < k + 1 → l.getD j 0 ≠ x := fun j hj => by
  rcases Nat.lt_or_ge j k with h1 | h1
  · exact h j h1
  · obtain rfl : j = k := by omega
    rw [hy]; exact hn
def IdxPost (l : List Int) (x : Int) (w : World) (e : Ending) (w' : World) : Prop := ∃ v : Int, e = .returned (.int .i64 v) ∧ (0 ≤ v ↔ x ∈ l) ∧ w = w'
theorem idxI (l : List Int) (x : Int) (lo hi : Nat) (A : Option Addr) (n cap : Nat) (w : World) (h : Rd .i64 w lo hi A n cap l) :
    Calls Try.prog 60 #[.slice A n cap, .int .i64 x] w (IdxPost l x w) := by
  have hc := h.cap_
  have HR := Lib.hid h
  have HL := Lib.hid h.len
  clear h
  go_enter Try.func60, Try.ntmps60
  go_wp2
  go_loop [8] (fun i => ∃ k : Nat, i = .int .i64 k ∧ k ≤ n ∧ ∀ j, j < k → l.getD j 0 ≠ x) (fun i => n - (intOf i).toNat)
  case atStart => exact ⟨0, rfl, by omega, fun j h => absurd h (by omega)⟩
  case round =>
    obtain ⟨k, rfl, hk, hall⟩ := hrel
    have HA := Lib.hid hall
    clear hall
    by_cases hlt : k < n
    · obtain ⟨b, off, rfl, _, _, hcl⟩ := HR.out.at_ hlt
      obtain ⟨y, hy⟩ : ∃ y, l.getD k 0 = y := ⟨_, rfl⟩
      rw [hy] at hcl
      have HY := Lib.hid hy
      clear hy
      have hlt2 : (k : Int) < n := by omega
      by_cases he : y = x
      · subst he
        go_wp2_with fail
        go_ret
        exact ⟨_, rfl, ⟨fun _ => by rw [← HY.out]; exact mem_getD (by rw [HL.out]; exact hlt), fun _ => by omega⟩, rfl⟩
      · have HE := Lib.hid he
        have he1 : (x == y) = false := by simpa using fun e : x = y => he e.symm
        clear he
        go_wp2_with fail
        go_round
        case rel => exact ⟨k + 1, by go_num, by omega, none_yet HA.out HY.out HE.out⟩
        case measure => simp [intOf]; omega
    · have hlt2 : ¬ (k : Int) < n := by omega
      obtain rfl : k = n := by omega
      go_wp2
      go_ret
      refine ⟨_, rfl, ⟨fun h => by omega, fun h => ?_⟩, rfl⟩
      obtain ⟨j, hj, e⟩ := ex_getD h
      exact absurd e (HA.out j (by rw [← HL.out]; exact hj))
theorem containsI (l : List Int) (x : Int) (lo hi : Nat) (A : Option Addr) (n cap : Nat) (w : World) (h : Rd .i64 w lo hi A n cap l) :
    Calls Try.prog 49 #[.slice A n cap, .int .i64 x] w fun e w' => e = .returned (.bool (decide (x ∈ l))) ∧ w = w' := by
  have HR := Lib.hid h
  clear h
  go_enter Try.func49, Try.ntmps49
  go_wp2_with fail
  (with_reducible refine (idxI l x _ _ A n cap _ HR.out).mono ?_)
  rintro e w1 ⟨v, rfl, hv, rfl⟩
  have HV := Lib.hid hv
  clear hv
  go_wp2_with fail
  go_ret
  exact ⟨congrArg (fun b => Ending.returned (.bool b)) (decide_eq_decide.2 HV.out), rfl⟩
theorem lawContains (l : List Int) (x : Int) (lo hi : Nat) (A : Option Addr) (n cap : Nat) (w : World) (h : Rd .i64 w lo hi A n cap l) :
    Calls Try.prog 18 #[.slice A n cap, .int .i64 x] w fun e w' => e = .returned (.bool (decide (x ∈ l))) ∧ w = w' := by
  have hc := h.cap_
  have HR := Lib.hid h
  have HL := Lib.hid h.len
  clear h
  go_enter Try.func18, Try.ntmps18
  go_wp2
  go_loop [5] (fun i => ∃ k : Nat, i = .int .i64 k ∧ k ≤ n ∧ ∀ j, j < k → l.getD j 0 ≠ x) (fun i => n - (intOf i).toNat)
  case atStart => exact ⟨0, rfl, by omega, fun j h => absurd h (by omega)⟩
  case round =>
    obtain ⟨k, rfl, hk, hall⟩ := hrel
    have HA := Lib.hid hall
    clear hall
    by_cases hlt : k < n
    · obtain ⟨b, off, rfl, _, _, hcl⟩ := HR.out.at_ hlt
      obtain ⟨y, hy⟩ : ∃ y, l.getD k 0 = y := ⟨_, rfl⟩
      rw [hy] at hcl
      have HY := Lib.hid hy
      clear hy
      have hlt2 : (k : Int) < n := by omega
      by_cases he : y = x
      · subst he
        go_wp2_with fail
        go_ret
        exact ⟨congrArg (fun b => Ending.returned (.bool b)) (decide_eq_true (by rw [← HY.out]; exact mem_getD (by rw [HL.out]; exact hlt))).symm, rfl⟩
      · have HE := Lib.hid he
        have he1 : (y == x) = false := by simpa using he
        clear he
        go_wp2_with fail
        go_round
        case rel => exact ⟨k + 1, by go_num, by omega, none_yet HA.out HY.out HE.out⟩
        case measure => simp [intOf]; omega
    · have hlt2 : ¬ (k : Int) < n := by omega
      obtain rfl : k = n := by omega
      go_wp2
      go_ret
      refine ⟨congrArg (fun b => Ending.returned (.bool b)) (decide_eq_false fun h => ?_).symm, rfl⟩
      obtain ⟨j, hj, e⟩ := ex_getD h
      exact absurd e (HA.out j (by rw [← HL.out]; exact hj))
theorem implDis (d e : Int) (w : World) :
    Calls Try.prog 64 #[.int .i64 d, .int .i64 e] w fun e' w' => e' = .returned (.bool (dis d e)) ∧ w = w' := by
  by_cases h : d = e
  · have HD : dis d e = decide (d ≠ 0) := by unfold dis; rw [if_pos h]
    rw [HD]
    subst h
    clear HD
    go_enter Try.func64, Try.ntmps64
    go_wp2
    go_ret
    exact ⟨by congr 2; by_cases h0 : d = 0 <;> simp [h0], rfl⟩
  · have HD : dis d e = decide (d < wrap64 (2 * e)) := by unfold dis; rw [if_neg h]
    rw [HD]
    have he1 : (d == e) = false := by simpa using h
    clear HD h
    go_enter Try.func64, Try.ntmps64
    go_wp2
    go_ret
    exact ⟨rfl, rfl⟩
/-- The comparison of distances, a closure over the placement and the receiver. -/
theorem cmpFn (A : Option Addr) (n cap : Nat) (r s : Int) (z : List Int) (q : Int) (b1 b2 : Nat) (x y : Int) (lo hi : Nat) (w : World) (h : Rd .i64 w lo hi A n cap z) (hX : Bx 26 w b1 #[.slice A n cap, .int .i64 r, .int .i64 s]) (hQ : Bx 3 w b2 #[.int .i64 q]) :
    Calls Try.prog 62 #[.int .i64 x, .int .i64 y, .pointer (some ⟨b1, 0, none⟩), .pointer (some ⟨b2, 0, none⟩)] w (NPost (cmp3 (dst z x q) (dst z y q)) w) := by
  have HR := Lib.hid h
  have HX := Lib.hid hX
  have HQ := Lib.hid hQ
  obtain ⟨d, hd⟩ : ∃ d, dst z x q = d := ⟨_, rfl⟩
  obtain ⟨e, he⟩ : ∃ e, dst z y q = e := ⟨_, rfl⟩
  rw [hd, he]
  have HD := Lib.hid hd
  have HE := Lib.hid he
  clear h hX hQ hd he
  go_enter Try.func62, Try.ntmps62
  go_wp2_with fail
  have c0 : ∀ m : Af w, m.w.cell? ⟨b1, 0, none⟩ = some (.slice A n cap) := fun m => (Af.cells HX.out m).cell 0
  have c1 : ∀ m : Af w, m.w.cell? ⟨b1, 1, none⟩ = some (.int .i64 r) := fun m => (Af.cells HX.out m).cell 1
  have c2 : ∀ m : Af w, m.w.cell? ⟨b1, 2, none⟩ = some (.int .i64 s) := fun m => (Af.cells HX.out m).cell 2
  have c3 : ∀ m : Af w, m.w.cell? ⟨b2, 0, none⟩ = some (.int .i64 q) := fun m => (Af.cells HQ.out m).cell 0
  have k0 := Lib.hid (fun m => by have hh := implDst A n cap r s z x q _ _ _ (Af.rd HR.out m); rw [HD.out] at hh; exact hh : ∀ m : Af w, Calls Try.prog 15 #[.agg #[.slice A n cap, .int .i64 r, .int .i64 s], .int .i64 x, .int .i64 q] m.w fun e w' => e = .returned (.int .i64 d) ∧ Below m.w.heap.size m.w w')
  have k1 := Lib.hid (fun m => by have hh := implDst A n cap r s z y q _ _ _ (Af.rd HR.out m); rw [HE.out] at hh; exact hh : ∀ m : Af w, Calls Try.prog 15 #[.agg #[.slice A n cap, .int .i64 r, .int .i64 s], .int .i64 y, .int .i64 q] m.w fun e' w' => e' = .returned (.int .i64 e) ∧ Below m.w.heap.size m.w w')
  have k2 := Lib.hid (fun m => (cmpI d e _).mono (fun _ _ ⟨h1, h2⟩ => ⟨h1, by rw [← h2]; exact Below.refl _ _⟩) : ∀ m : Af w, Calls Try.prog 63 #[.int .i64 d, .int .i64 e] m.w fun e' w' => e' = .returned (.int .i64 (cmp3 d e)) ∧ Below m.w.heap.size m.w w')
  refine region_after (by kernel_rfl) (by kernel_rfl) ?_
  repeat (go_big_quiet_step ((first
    | (go_at_call 15; with_reducible exact Af.call (k0.out _))
    | (go_at_call 15; with_reducible exact Af.call (k1.out _))
    | (go_at_call 63; with_reducible exact Af.call (k2.out _)))))
  refine wpQuiet_nil ?_
  intro _ hw'
  obtain ⟨nq, hw''⟩ := hw'
  subst hw''
  clear c0 c1 c2 c3 k0 k1 k2
  go_wp2_with fail
  go_ret
  exact ⟨rfl, nq.below⟩
end Go.Proofs.Ytichhbkgebimeaa.bx
